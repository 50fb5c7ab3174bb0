/- Quotients of bounds: the program's (I): the ends of divisors, the ends of quotients, the least and the greatest of a list. -/
import Derived.Test.YtceanngbcolbaaaItvI
import Derived.Test.YtceanngbcolbaaaOwn
import Derived.WalkKit
import Derived.ProofKit
import Derived.OpenShut
import Derived.Below
import Derived.Deep.RegionLaw
namespace Go.Proofs.Ytceanngbcolbaaa
open Go.ChangeShapes Go.WideShapes Go.ChangeAt Go.RowKit

theorem infoInt : (Try.prog.info? 3).map (fun i => (i.zero, i.size, i.bytes)) = some (some (.int .i64 0), 1, 8) := by kernel_rfl

theorem two_cells {W : World} {b : Nat} {x y : Int} (h0 : W.cell? ⟨b, 0, none⟩ = some (.int .i64 x)) (h1 : W.cell? ⟨b, 1, none⟩ = some (.int .i64 y)) : ∀ j u, ([Value.int .i64 x, .int .i64 y] : List Value)[j]? = some u → W.cell? ((⟨b, 0, none⟩ : Addr).add j) = some u := by
  intro j u hj
  match j, hj with
  | 0, hj => simp at hj; subst hj; simpa [Addr.add] using h0
  | 1, hj => simp at hj; subst hj; simpa [Addr.add] using h1
  | n + 2, hj => simp at hj
theorem two_one (x y : Int) : ∀ u ∈ ([Value.int .i64 x, .int .i64 y] : List Value), u.oneCell' = true := by simp [Value.oneCell']
/-- The ends of divisors. -/
def dvs (c d : Int) : List Int := if d < 0 then [c, d] else if c < 0 then (if d = 0 then [c, -1] else [c, -1, 1, d]) else if 0 < c then [c, d] else if 0 < d then [1, d] else []
/-- The ends of quotients by these. -/
def qs (a b : Int) : List Int → List Int
  | [] => []
  | d :: l => a.tdiv d :: b.tdiv d :: qs a b l
theorem qs_len (a b : Int) (l : List Int) : (qs a b l).length = 2 * l.length := by
  induction l with
  | nil => rfl
  | cons d l ih => simp [qs, ih]; omega
theorem qs_add (a b : Int) (l m : List Int) : qs a b (l ++ m) = qs a b l ++ qs a b m := by
  induction l with
  | nil => rfl
  | cons d l ih => simp [qs, ih]
theorem qs_take (a b : Int) (l : List Int) (k : Nat) (h : k < l.length) : qs a b (l.take (k + 1)) = qs a b (l.take k) ++ [a.tdiv (l.getD k 0), b.tdiv (l.getD k 0)] := by
  rw [List.take_add_one, qs_add]
  congr 1
  rw [List.getD_eq_getElem?_getD, List.getElem?_eq_getElem h]
  rfl
theorem dvs_ok {c d : Int} (h : c ≤ d) (hc : -32768 ≤ c) (hd : d ≤ 32767) : ∀ x ∈ dvs c d, x ≠ 0 ∧ -32768 ≤ x ∧ x ≤ 32767 := by
  intro x hx
  unfold dvs at hx
  split at hx
  · simp at hx; omega
  · split at hx
    · split at hx <;> simp at hx <;> omega
    · split at hx
      · simp at hx; omega
      · split at hx
        · simp at hx; omega
        · simp at hx
theorem dvs_ne {c d : Int} (h : c ≤ d) (hn : ¬ (c = 0 ∧ d = 0)) : dvs c d ≠ [] := by
  unfold dvs
  split
  · simp
  · split
    · split <;> simp
    · split
      · simp
      · split
        · simp
        · exact absurd (by have := h; omega) hn
theorem dvs_len (c d : Int) : (dvs c d).length ≤ 4 := by
  unfold dvs
  split
  · simp
  · split
    · split <;> simp
    · split
      · simp
      · split <;> simp
theorem held2 (w : World) (a b c d : Value) (t : TypeId) : HeldL w [(w.heap.size + 1, [c, d]), (w.heap.size, [a, b])] ((w.alloc (.cells #[a, b] t)).alloc (.cells #[c, d] t)) := by
  have e1 : w.heap.size + 1 = (w.alloc (.cells #[a, b] t)).heap.size := by simp
  rw [e1]
  exact HeldL.new (HeldL.new (HeldL.nil w))

set_option maxHeartbeats 1000000 in
theorem divisorsI_1 (c d : Int) (w : World) (h1 : c ≤ d) (h2 : d < 0) :
    Calls Try.prog 53 #[.agg #[.int .i64 c, .int .i64 d]] w fun e w' => ∃ v, e = .returned v ∧ Owns (w.heap.size + 1) 3 v [c, d] w' ∧ Below w.heap.size w w' := by
  obtain ⟨i0, hi, hz0, hz1, hz2⟩ := info_parts infoInt
  have b0 := (Below.refl w.heap.size w).alloc (Nat.le_refl _) (.cells #[.int .i64 c, .int .i64 d] 24)
  go_enter Try.func53, Try.ntmps53
  go_wp2_with (at_builtin; refine wpList_append_own _ rfl (.tmp 7) (.tmp 13) 27 rfl (w.heap.size + 1) 3 i0 (.int .i64 0) 1 8 Try.underlying27 hi hz0 hz1 hz2 rfl (by decide) _ _ _ rfl (World.ownsRow_nil _ _ _ _) ⟨w.heap.size + 1, 0, none⟩ 2 2 [.int .i64 c, .int .i64 d] rfl rfl (two_cells (by simp) (by simp)) (two_one _ _) (by simp [maxLen]) (by simp) (by simp; try omega) ?_)
  intro v1 w1 o1 g1 n1
  have O1 : Owns (w.heap.size + 1) 3 v1 [c, d] w1 := by unfold Owns; simpa using o1
  have b1 := (b0.alloc (by simp) _).grown g1 (by simp; omega) (by simp [Value.ownBlock])
  have k0 : w1.cell? ⟨w.heap.size, 0, none⟩ = some (.int .i64 c) := g1.cell (by simp) (by simp [Value.ownBlock])
  have k1 : w1.cell? ⟨w.heap.size, 1, none⟩ = some (.int .i64 d) := g1.cell (by simp) (by simp [Value.ownBlock])
  have s1 := g1.size
  simp at s1
  clear o1 g1 n1
  go_wp2_with fail
  go_ret
  exact ⟨v1, rfl, O1, b1⟩

set_option maxHeartbeats 1000000 in
theorem divisorsI_2 (c d : Int) (w : World) (h1 : c < 0) (h2 : d = 0) :
    Calls Try.prog 53 #[.agg #[.int .i64 c, .int .i64 d]] w fun e w' => ∃ v, e = .returned v ∧ Owns (w.heap.size + 1) 3 v [c, -1] w' ∧ Below w.heap.size w w' := by
  subst h2
  obtain ⟨i0, hi, hz0, hz1, hz2⟩ := info_parts infoInt
  have b0 := (Below.refl w.heap.size w).alloc (Nat.le_refl _) (.cells #[.int .i64 c, .int .i64 0] 24)
  go_enter Try.func53, Try.ntmps53
  go_wp2_with (at_builtin; refine wpList_append_own _ rfl (.tmp 7) (.tmp 13) 27 rfl (w.heap.size + 1) 3 i0 (.int .i64 0) 1 8 Try.underlying27 hi hz0 hz1 hz2 rfl (by decide) _ _ _ rfl (World.ownsRow_nil _ _ _ _) ⟨w.heap.size + 1, 0, none⟩ 2 2 [.int .i64 c, .int .i64 (-1)] rfl rfl (two_cells (by simp) (by simp)) (two_one _ _) (by simp [maxLen]) (by simp) (by simp; try omega) ?_)
  intro v1 w1 o1 g1 n1
  have O1 : Owns (w.heap.size + 1) 3 v1 [c, -1] w1 := by unfold Owns; simpa using o1
  have b1 := (b0.alloc (by simp) _).grown g1 (by simp; omega) (by simp [Value.ownBlock])
  have k0 : w1.cell? ⟨w.heap.size, 0, none⟩ = some (.int .i64 c) := g1.cell (by simp) (by simp [Value.ownBlock])
  have k1 : w1.cell? ⟨w.heap.size, 1, none⟩ = some (.int .i64 0) := g1.cell (by simp) (by simp [Value.ownBlock])
  have s1 := g1.size
  simp at s1
  clear o1 g1 n1
  go_wp2_with fail
  go_ret
  exact ⟨v1, rfl, O1, b1⟩

set_option maxHeartbeats 1000000 in
theorem divisorsI_3 (c d : Int) (w : World) (h1 : c < 0) (h2 : 0 < d) :
    Calls Try.prog 53 #[.agg #[.int .i64 c, .int .i64 d]] w fun e w' => ∃ v, e = .returned v ∧ Owns (w.heap.size + 1) 3 v [c, -1, 1, d] w' ∧ Below w.heap.size w w' := by
  obtain ⟨i0, hi, hz0, hz1, hz2⟩ := info_parts infoInt
  have b0 := (Below.refl w.heap.size w).alloc (Nat.le_refl _) (.cells #[.int .i64 c, .int .i64 d] 24)
  go_enter Try.func53, Try.ntmps53
  go_wp2_with (at_builtin; refine wpList_append_own _ rfl (.tmp 7) (.tmp 13) 27 rfl (w.heap.size + 1) 3 i0 (.int .i64 0) 1 8 Try.underlying27 hi hz0 hz1 hz2 rfl (by decide) _ _ _ rfl (World.ownsRow_nil _ _ _ _) ⟨w.heap.size + 1, 0, none⟩ 2 2 [.int .i64 c, .int .i64 (-1)] rfl rfl (two_cells (by simp) (by simp)) (two_one _ _) (by simp [maxLen]) (by simp) (by simp; try omega) ?_)
  intro v1 w1 o1 g1 n1
  have O1 : Owns (w.heap.size + 1) 3 v1 [c, -1] w1 := by unfold Owns; simpa using o1
  have b1 := (b0.alloc (by simp) _).grown g1 (by simp; omega) (by simp [Value.ownBlock])
  have k0 : w1.cell? ⟨w.heap.size, 0, none⟩ = some (.int .i64 c) := g1.cell (by simp) (by simp [Value.ownBlock])
  have k1 : w1.cell? ⟨w.heap.size, 1, none⟩ = some (.int .i64 d) := g1.cell (by simp) (by simp [Value.ownBlock])
  have s1 := g1.size
  simp at s1
  clear o1 g1 n1
  go_wp2_with (at_builtin; refine wpList_append_own _ rfl (.tmp 18) (.tmp 24) 27 rfl (w.heap.size + 1) 3 i0 (.int .i64 0) 1 8 Try.underlying27 hi hz0 hz1 hz2 rfl (by decide) _ _ _ rfl (O1.alloc _) ⟨w1.heap.size, 0, none⟩ 2 2 [.int .i64 1, .int .i64 d] rfl rfl (two_cells (by simp) (by simp)) (two_one _ _) (by simp [maxLen]) (by simp) (by simp; try omega) ?_)
  intro v2 w2 o2 g2 n2
  have O2 : Owns (w.heap.size + 1) 3 v2 [c, -1, 1, d] w2 := by unfold Owns; simpa using o2
  have b2 := Owns.grown (by omega) (O1.alloc _) (b1.alloc b1.size _) (Nat.le_trans b1.size (by simp)) g2
  clear o2 g2 n2 O1 b1
  go_wp2_with fail
  go_ret
  exact ⟨v2, rfl, O2, b2⟩

set_option maxHeartbeats 1000000 in
theorem divisorsI_4 (c d : Int) (w : World) (h1 : 0 < c) (h2 : c ≤ d) :
    Calls Try.prog 53 #[.agg #[.int .i64 c, .int .i64 d]] w fun e w' => ∃ v, e = .returned v ∧ Owns (w.heap.size + 1) 3 v [c, d] w' ∧ Below w.heap.size w w' := by
  obtain ⟨i0, hi, hz0, hz1, hz2⟩ := info_parts infoInt
  have b0 := (Below.refl w.heap.size w).alloc (Nat.le_refl _) (.cells #[.int .i64 c, .int .i64 d] 24)
  go_enter Try.func53, Try.ntmps53
  go_wp2_with (at_builtin; refine wpList_append_own _ rfl (.tmp 18) (.tmp 24) 27 rfl (w.heap.size + 1) 3 i0 (.int .i64 0) 1 8 Try.underlying27 hi hz0 hz1 hz2 rfl (by decide) _ _ _ rfl (World.ownsRow_nil _ _ _ _) ⟨w.heap.size + 1, 0, none⟩ 2 2 [.int .i64 c, .int .i64 d] rfl rfl (two_cells (by simp) (by simp)) (two_one _ _) (by simp [maxLen]) (by simp) (by simp; try omega) ?_)
  intro v1 w1 o1 g1 n1
  have O1 : Owns (w.heap.size + 1) 3 v1 [c, d] w1 := by unfold Owns; simpa using o1
  have b1 := (b0.alloc (by simp) _).grown g1 (by simp; omega) (by simp [Value.ownBlock])
  clear o1 g1 n1
  go_wp2_with fail
  go_ret
  exact ⟨v1, rfl, O1, b1⟩

set_option maxHeartbeats 1000000 in
theorem divisorsI_5 (c d : Int) (w : World) (h1 : c = 0) (h2 : 0 < d) :
    Calls Try.prog 53 #[.agg #[.int .i64 c, .int .i64 d]] w fun e w' => ∃ v, e = .returned v ∧ Owns (w.heap.size + 1) 3 v [1, d] w' ∧ Below w.heap.size w w' := by
  subst h1
  obtain ⟨i0, hi, hz0, hz1, hz2⟩ := info_parts infoInt
  have b0 := (Below.refl w.heap.size w).alloc (Nat.le_refl _) (.cells #[.int .i64 0, .int .i64 d] 24)
  go_enter Try.func53, Try.ntmps53
  go_wp2_with (at_builtin; refine wpList_append_own _ rfl (.tmp 18) (.tmp 24) 27 rfl (w.heap.size + 1) 3 i0 (.int .i64 0) 1 8 Try.underlying27 hi hz0 hz1 hz2 rfl (by decide) _ _ _ rfl (World.ownsRow_nil _ _ _ _) ⟨w.heap.size + 1, 0, none⟩ 2 2 [.int .i64 1, .int .i64 d] rfl rfl (two_cells (by simp) (by simp)) (two_one _ _) (by simp [maxLen]) (by simp) (by simp; try omega) ?_)
  intro v1 w1 o1 g1 n1
  have O1 : Owns (w.heap.size + 1) 3 v1 [1, d] w1 := by unfold Owns; simpa using o1
  have b1 := (b0.alloc (by simp) _).grown g1 (by simp; omega) (by simp [Value.ownBlock])
  clear o1 g1 n1
  go_wp2_with fail
  go_ret
  exact ⟨v1, rfl, O1, b1⟩

set_option maxHeartbeats 1000000 in
theorem divisorsI_6 (c d : Int) (w : World) (h1 : c = 0) (h2 : d = 0) :
    Calls Try.prog 53 #[.agg #[.int .i64 c, .int .i64 d]] w fun e w' => e = .returned (.slice none 0 0) ∧ Below w.heap.size w w' := by
  subst h1
  subst h2
  obtain ⟨i0, hi, hz0, hz1, hz2⟩ := info_parts infoInt
  have b0 := (Below.refl w.heap.size w).alloc (Nat.le_refl _) (.cells #[.int .i64 0, .int .i64 0] 24)
  go_enter Try.func53, Try.ntmps53
  go_wp2_with fail
  go_ret
  exact ⟨rfl, b0⟩

theorem divisorsI (c d : Int) (w : World) (h : c ≤ d) (hn : ¬ (c = 0 ∧ d = 0)) :
    Calls Try.prog 53 #[.agg #[.int .i64 c, .int .i64 d]] w fun e w' => ∃ v, e = .returned v ∧ Owns (w.heap.size + 1) 3 v (dvs c d) w' ∧ Below w.heap.size w w' := by
  unfold dvs
  split
  · exact divisorsI_1 _ _ _ h (by assumption)
  · split
    · split
      · exact divisorsI_2 _ _ _ (by assumption) (by assumption)
      · exact divisorsI_3 _ _ _ (by assumption) (by omega)
    · split
      · exact divisorsI_4 _ _ _ (by assumption) h
      · split
        · exact divisorsI_5 _ _ _ (by omega) (by assumption)
        · exact absurd (by omega) hn

set_option maxHeartbeats 2000000 in
theorem quotsI (a b c d : Int) (w : World) (a1 : -32768 ≤ a) (a2 : a ≤ 32767) (b1 : -32768 ≤ b) (b2 : b ≤ 32767) (h : c ≤ d) (hc : -32768 ≤ c) (hd : d ≤ 32767) (hn : ¬ (c = 0 ∧ d = 0)) :
    Calls Try.prog 34 #[.agg #[.int .i64 a, .int .i64 b], .agg #[.int .i64 c, .int .i64 d]] w fun e w' => ∃ v, e = .returned v ∧ Owns w.heap.size 3 v (qs a b (dvs c d)) w' ∧ Below w.heap.size w w' := by
  obtain ⟨i0, hi, hz0, hz1, hz2⟩ := info_parts infoInt
  have hok := dvs_ok h hc hd
  have hne := dvs_ne h hn
  have hlen := dvs_len c d
  obtain ⟨ds, hds⟩ : ∃ ds, ds = dvs c d := ⟨_, rfl⟩
  rw [← hds] at hok hne hlen
  go_enter Try.func34, Try.ntmps34
  go_wp2_with fail
  refine (divisorsI _ _ _ h hn).mono ?_
  rintro e w1 ⟨v, rfl, O, hb⟩
  have H1 := HeldL.next hb (held2 w (.int .i64 a) (.int .i64 b) (.int .i64 c) (.int .i64 d) 24)
  rw [← hds] at O
  have HD : Hid (ds = dvs c d) := hds
  clear hds
  obtain ⟨g, cap, rfl, hg1, hg2, hcell, _, _⟩ := O.form hne
  have c00 : w1.cell? ⟨w.heap.size, 0, none⟩ = some (.int .i64 a) := H1.cell (e := (w.heap.size, [.int .i64 a, .int .i64 b])) (by simp) (i := 0) rfl
  have c01 : w1.cell? ⟨w.heap.size, 1, none⟩ = some (.int .i64 b) := H1.cell (e := (w.heap.size, [.int .i64 a, .int .i64 b])) (by simp) (i := 1) rfl
  have q0 : w.heap.size < w1.heap.size := H1.size (e := (w.heap.size, [.int .i64 a, .int .i64 b])) (by simp)
  have B1 := H1.below
  clear O hb H1 hg1
  go_wp2_with fail
  go_loopw [5, 11] (fun v i wr => ∃ k : Nat, k ≤ ds.length ∧ i = .int .i64 k ∧ Owns w1.heap.size 3 v (qs a b (ds.take k)) wr ∧ Below w1.heap.size w1 wr)
    (fun _ i _ => ds.length - (intOf i).toNat)
  case atStart => exact ⟨0, Nat.zero_le _, rfl, Owns.nil _ _ _, Below.refl _ _⟩
  case round =>
    obtain ⟨k, hk, rfl, hown, hnx⟩ := hrel
    by_cases hlt : k < ds.length
    · have hx := hok (ds.getD k 0) (by rw [List.getD_eq_getElem?_getD, List.getElem?_eq_getElem hlt]; exact List.getElem_mem hlt)
      have cx : wr.cell? ⟨g, k, none⟩ = some (.int .i64 (ds.getD k 0)) := (hnx.cell hg2).trans (hcell k hlt)
      have cy : wr.cell? ⟨w.heap.size, 0, none⟩ = some (.int .i64 a) := (hnx.cell q0).trans c00
      have cz : wr.cell? ⟨w.heap.size, 1, none⟩ = some (.int .i64 b) := (hnx.cell q0).trans c01
      have hq := qs_take a b ds k hlt
      generalize ds.getD k 0 = x at hx cx hq
      obtain ⟨x0, x1, x2⟩ := hx
      have ta := tdiv_small a x a1 (by omega)
      have tb := tdiv_small b x b1 (by omega)
      have wa : IntKind.i64.wrap (a.tdiv x) = a.tdiv x := by rw [IntKind.wrap_i64]; omega
      have wb : IntKind.i64.wrap (b.tdiv x) = b.tdiv x := by rw [IntKind.wrap_i64]; omega
      have hsz : w1.heap.size ≤ wr.heap.size := hnx.size
      have hl4 : (qs a b (ds.take k)).length ≤ 8 := by rw [qs_len, List.length_take]; omega
      have hown' := hown
      clear hok hcell
      go_wp2_with fail
      go_region_law (refine step_append_own rfl (.tmp 15) (.tmp 24) 27 rfl w1.heap.size 3 i0 (.int .i64 0) 1 8 Try.underlying27 hi hz0 hz1 hz2 rfl (by decide) u5 (qs a b (ds.take k)).length ((qs a b (ds.take k)).map (Value.int .i64)) (by simp [Act.eval]) (Owns.alloc hown.drew _) ⟨wr.heap.size, 0, none⟩ 2 2 [.int .i64 (a.tdiv x), .int .i64 (b.tdiv x)] (by simp [Act.eval]) rfl (two_cells (by simp) (by simp)) (two_one _ _) (by unfold maxLen; omega) (by omega) (by simp; omega) ?_; intro v' w' h1 h2)
      all_goals
        have O' := Owns.two h1
        rw [← hq] at O'
        have N' := Owns.grown (Nat.le_refl _) (hown'.drew.alloc _) ((hnx.drew).alloc hsz _) (Nat.le_trans hsz (by simp)) h2
        clear h1 h2 hown hown' hnx cx cy cz hq
        go_wp2_with fail
        go_roundw
        case rel => exact ⟨k + 1, by omega, by go_num, O', N'⟩
        case measure => simp [intOf]; omega
    · have : k = ds.length := by omega
      subst this
      go_wp2_with fail
      go_ret
      have hds : ds = dvs c d := HD
      rw [List.take_length, hds] at hown
      exact ⟨_, rfl, hown.weaken (Nat.le_of_lt q0), B1.trans (hnx.mono B1.size)⟩

set_option maxHeartbeats 1000000 in
theorem quotsI_0 (a b : Int) (w : World) :
    Calls Try.prog 34 #[.agg #[.int .i64 a, .int .i64 b], .agg #[.int .i64 0, .int .i64 0]] w fun e w' => e = .returned (.slice none 0 0) ∧ Below w.heap.size w w' := by
  go_enter Try.func34, Try.ntmps34
  go_wp2_with fail
  refine (divisorsI_6 _ _ _ rfl rfl).mono ?_
  rintro e w1 ⟨rfl, hb⟩
  have H1 := HeldL.next hb (held2 w (.int .i64 a) (.int .i64 b) (.int .i64 0) (.int .i64 0) 24)
  go_wp2_with fail
  refine wp_loop_rounds 1 ?_
  rw [rounds_succ]
  go_wp2_with fail
  go_ret
  exact ⟨rfl, H1.below⟩

/-- The least and the greatest of the first numbers. -/
def mnUp (z : Nat → Int) : Nat → Int
  | 0 => z 0
  | k + 1 => min (mnUp z k) (z (k + 1))
def mxUp (z : Nat → Int) : Nat → Int
  | 0 => z 0
  | k + 1 => max (mxUp z k) (z (k + 1))

set_option maxHeartbeats 1000000 in
theorem minI (b n c : Nat) (z : Nat → Int) (w : World) (hbig : n < 100) (hc : ∀ j, j < n + 1 → w.cell? ⟨b, j, none⟩ = some (.int .i64 (z j))) :
    Calls Try.prog 36 #[.slice (some ⟨b, 0, none⟩) (n + 1) c] w fun e w' => e = .returned (.int .i64 (mnUp z n)) ∧ w' = w := by
  have h0 : w.cell? ⟨b, 0, none⟩ = some (.int .i64 (z 0)) := hc 0 (by omega)
  go_enter Try.func36, Try.ntmps36
  go_wp2
  go_loop [3, 4] (fun m i => ∃ k : Nat, k ≤ n ∧ i = .int .i64 ((k : Int) + 1) ∧ m = .int .i64 (mnUp z k)) (fun _ i => n + 1 - (intOf i).toNat)
  case atStart => exact ⟨0, Nat.zero_le _, rfl, rfl⟩
  case round =>
    obtain ⟨k, hk, rfl, rfl⟩ := hrel
    by_cases hlt : k < n
    · have hcell : w.cell? ⟨b, k + 1, none⟩ = some (.int .i64 (z (k + 1))) := hc (k + 1) (by omega)
      have e : mnUp z (k + 1) = min (mnUp z k) (z (k + 1)) := rfl
      generalize mnUp z k = m at e
      generalize z (k + 1) = x at e hcell
      clear hc h0
      have E : Hid (mnUp z (k + 1) = min m x) := e
      clear e
      have t1 : ((k : Int) + 1).toNat = k + 1 := by omega
      have t2 : (0 : Int) ≤ (k : Int) + 1 := by omega
      have t3 : (k : Int) + 1 < (n : Int) + 1 := by omega
      go_wp2
      all_goals go_round
      all_goals
        have E' : mnUp z (k + 1) = min m x := E
        clear E
        first | exact ⟨k + 1, by omega, by go_num, by rw [E']; go_num⟩ | (simp [intOf]; omega)
    · have : k = n := by omega
      subst this
      go_wp2
      go_ret
      exact ⟨rfl, rfl⟩

set_option maxHeartbeats 1000000 in
theorem maxI (b n c : Nat) (z : Nat → Int) (w : World) (hbig : n < 100) (hc : ∀ j, j < n + 1 → w.cell? ⟨b, j, none⟩ = some (.int .i64 (z j))) :
    Calls Try.prog 37 #[.slice (some ⟨b, 0, none⟩) (n + 1) c] w fun e w' => e = .returned (.int .i64 (mxUp z n)) ∧ w' = w := by
  have h0 : w.cell? ⟨b, 0, none⟩ = some (.int .i64 (z 0)) := hc 0 (by omega)
  go_enter Try.func37, Try.ntmps37
  go_wp2
  go_loop [3, 4] (fun m i => ∃ k : Nat, k ≤ n ∧ i = .int .i64 ((k : Int) + 1) ∧ m = .int .i64 (mxUp z k)) (fun _ i => n + 1 - (intOf i).toNat)
  case atStart => exact ⟨0, Nat.zero_le _, rfl, rfl⟩
  case round =>
    obtain ⟨k, hk, rfl, rfl⟩ := hrel
    by_cases hlt : k < n
    · have hcell : w.cell? ⟨b, k + 1, none⟩ = some (.int .i64 (z (k + 1))) := hc (k + 1) (by omega)
      have e : mxUp z (k + 1) = max (mxUp z k) (z (k + 1)) := rfl
      generalize mxUp z k = m at e
      generalize z (k + 1) = x at e hcell
      clear hc h0
      have E : Hid (mxUp z (k + 1) = max m x) := e
      clear e
      have t1 : ((k : Int) + 1).toNat = k + 1 := by omega
      have t2 : (0 : Int) ≤ (k : Int) + 1 := by omega
      have t3 : (k : Int) + 1 < (n : Int) + 1 := by omega
      go_wp2
      all_goals go_round
      all_goals
        have E' : mxUp z (k + 1) = max m x := E
        clear E
        first | exact ⟨k + 1, by omega, by go_num, by rw [E']; go_num⟩ | (simp [intOf]; omega)
    · have : k = n := by omega
      subst this
      go_wp2
      go_ret
      exact ⟨rfl, rfl⟩
end Go.Proofs.Ytceanngbcolbaaa
