/- Of a number of each of two bounds what is reckoned is in the bounds that are reckoned. No program in it. -/
import Derived.Test.YtceanngbcolbaaaItvFoldI
namespace Go.Proofs.Ytceanngbcolbaaa

theorem has_mk {a b n : Int} (h1 : -32768 ≤ a) (h2 : b ≤ 32767) (h3 : a ≤ n) (h4 : n ≤ b) : itvHas a b n = true := by
  simp only [itvHas, itvOk, okB, Bool.and_eq_true, decide_eq_true_eq]
  omega
theorem fold_has {lo hi m : Int} (h : foldOk lo hi = true) (h1 : lo ≤ m) (h2 : m ≤ hi) : itvHas (foldLo lo hi) (foldHi lo hi) (wr m) = true := by
  have a1 := off_turn lo
  have a2 := off_turn m
  have a3 := off_turn hi
  have t1 : turn lo ≤ turn m := by unfold turn; omega
  have t2 : turn m ≤ turn hi := by unfold turn; omega
  rw [foldLo, foldHi, if_pos h, if_pos h]
  by_cases e : turn lo = turn hi
  · rw [if_pos e, if_pos e]
    exact has_mk (wr_lo _) (wr_hi _) (by omega) (by omega)
  · rw [if_neg e, if_neg e]
    exact has_mk (by omega) (by omega) (wr_lo _) (wr_hi _)
theorem mul_between {u v a b : Int} (h1 : a ≤ u) (h2 : u ≤ b) : min (a * v) (b * v) ≤ u * v ∧ u * v ≤ max (a * v) (b * v) := by
  rcases Int.le_total 0 v with h | h
  · have e1 := Int.mul_le_mul_of_nonneg_right h1 h
    have e2 := Int.mul_le_mul_of_nonneg_right h2 h
    omega
  · have e1 := Int.mul_le_mul_of_nonpos_right h1 h
    have e2 := Int.mul_le_mul_of_nonpos_right h2 h
    omega
theorem mul_span {u v a b c d : Int} (h1 : a ≤ u) (h2 : u ≤ b) (h3 : c ≤ v) (h4 : v ≤ d) : spanLo (a * c) (a * d) (b * c) (b * d) ≤ u * v ∧ u * v ≤ spanHi (a * c) (a * d) (b * c) (b * d) := by
  have e := mul_between (v := v) h1 h2
  have f := mul_between (v := a) h3 h4
  have g := mul_between (v := b) h3 h4
  rw [Int.mul_comm v a, Int.mul_comm c a, Int.mul_comm d a] at f
  rw [Int.mul_comm v b, Int.mul_comm c b, Int.mul_comm d b] at g
  unfold spanLo spanHi
  omega
theorem tdiv_mono {u1 u2 v : Int} (h : u1 ≤ u2) (hv : 0 < v) : u1.tdiv v ≤ u2.tdiv v := Int.tdiv_le_tdiv hv h
theorem tdiv_between {u v a b : Int} (h1 : a ≤ u) (h2 : u ≤ b) : min (a.tdiv v) (b.tdiv v) ≤ u.tdiv v ∧ u.tdiv v ≤ max (a.tdiv v) (b.tdiv v) := by
  rcases (show v = 0 ∨ 0 < v ∨ v < 0 by omega) with h | h | h
  · subst h; simp
  · have e1 := tdiv_mono h1 h
    have e2 := tdiv_mono h2 h
    omega
  · have e1 := tdiv_mono h1 (show 0 < -v by omega)
    have e2 := tdiv_mono h2 (show 0 < -v by omega)
    simp only [Int.tdiv_neg] at e1 e2
    omega
/-- Over divisors of one sign the quotient lies between those by the ends. -/
theorem tdiv_pos {u v c d : Int} (h0 : 0 < c) (h3 : c ≤ v) (h4 : v ≤ d) : min (u.tdiv c) (u.tdiv d) ≤ u.tdiv v ∧ u.tdiv v ≤ max (u.tdiv c) (u.tdiv d) := by
  have key : ∀ n : Int, 0 ≤ n → n.tdiv d ≤ n.tdiv v ∧ n.tdiv v ≤ n.tdiv c := by
    intro n hn
    rw [Int.tdiv_eq_ediv_of_nonneg hn, Int.tdiv_eq_ediv_of_nonneg hn, Int.tdiv_eq_ediv_of_nonneg hn]
    have k : ∀ p q : Int, 0 < p → p ≤ q → n / q ≤ n / p := by
      intro p q hp hq
      rw [Int.le_ediv_iff_mul_le hp]
      have e0 := Int.ediv_nonneg hn (show 0 ≤ q by omega)
      have e1 := Int.ediv_mul_le n (show q ≠ 0 by omega)
      have e2 := Int.mul_le_mul_of_nonneg_left hq e0
      omega
    exact ⟨k v d (by omega) h4, k c v h0 h3⟩
  rcases Int.le_total 0 u with h | h
  · have := key u h
    omega
  · have := key (-u) (by omega)
    simp only [Int.neg_tdiv] at this
    omega
theorem tdiv_neg' {u v c d : Int} (h0 : d < 0) (h3 : c ≤ v) (h4 : v ≤ d) : min (u.tdiv c) (u.tdiv d) ≤ u.tdiv v ∧ u.tdiv v ≤ max (u.tdiv c) (u.tdiv d) := by
  have := tdiv_pos (u := u) (show 0 < -d by omega) (show -d ≤ -v by omega) (show -v ≤ -c by omega)
  simp only [Int.tdiv_neg] at this
  omega
set_option maxHeartbeats 4000000 in
theorem div_span {u v a b c d : Int} (h1 : a ≤ u) (h2 : u ≤ b) (h3 : c ≤ v) (h4 : v ≤ d) (hv : v ≠ 0) : divLo a b c d ≤ u.tdiv v ∧ u.tdiv v ≤ divHi a b c d := by
  unfold divLo divHi
  by_cases e1 : 0 ≤ c
  · rw [if_pos e1, if_pos e1]
    have k := tdiv_pos (u := u) (c := max c 1) (show 0 < max c 1 by omega) (show max c 1 ≤ v by omega) h4
    have k1 := tdiv_between (v := max c 1) h1 h2
    have k2 := tdiv_between (v := d) h1 h2
    unfold spanLo spanHi
    omega
  · rw [if_neg e1, if_neg e1]
    by_cases e2 : d ≤ 0
    · rw [if_pos e2, if_pos e2]
      have k := tdiv_neg' (u := u) (d := min d (-1)) (show min d (-1) < 0 by omega) h3 (show v ≤ min d (-1) by omega)
      have k1 := tdiv_between (v := c) h1 h2
      have k2 := tdiv_between (v := min d (-1)) h1 h2
      unfold spanLo spanHi
      omega
    · rw [if_neg e2, if_neg e2]
      rcases (show v < 0 ∨ 0 < v by omega) with hs | hs
      · have k := tdiv_neg' (u := u) (d := -1) (by omega) h3 (show v ≤ -1 by omega)
        have k1 := tdiv_between (v := c) h1 h2
        have k2 := tdiv_between (v := -1) h1 h2
        unfold spanLo spanHi
        omega
      · have k := tdiv_pos (u := u) (c := 1) (by omega) (show 1 ≤ v by omega) h4
        have k2 := tdiv_between (v := d) h1 h2
        rw [Int.tdiv_one] at k
        unfold spanLo spanHi
        omega
theorem ok_all2 {a b : Int} (h : itvOk a b = true) : -32768 ≤ a ∧ a ≤ 32767 ∧ -32768 ≤ b ∧ b ≤ 32767 ∧ a ≤ b := by
  obtain ⟨h1, h2, h3⟩ := itvOk_of h
  exact ⟨ok_lo h1, ok_hi h1, ok_lo h2, ok_hi h2, h3⟩
theorem foldOk_mk {l h : Int} (h1 : -1099511627776 ≤ l) (h2 : h ≤ 1099511627776) (h3 : l ≤ h) : foldOk l h = true := by
  simp only [foldOk, far, Bool.and_eq_true, decide_eq_true_eq]
  omega
set_option maxHeartbeats 4000000 in
theorem div_far {a b c d : Int} (h1 : -32768 ≤ a) (h2 : a ≤ 32767) (h3 : -32768 ≤ b) (h4 : b ≤ 32767) : -32768 ≤ divLo a b c d ∧ divHi a b c d ≤ 32768 := by
  have s1 := fun y => tdiv_small a y h1 (by omega)
  have s2 := fun y => tdiv_small b y h3 (by omega)
  have a1 := s1 (max c 1)
  have a2 := s1 d
  have a3 := s1 c
  have a4 := s1 (min d (-1))
  have a5 := s1 (-1)
  have b1 := s2 (max c 1)
  have b2 := s2 d
  have b3 := s2 c
  have b4 := s2 (min d (-1))
  have b5 := s2 (-1)
  clear s1 s2
  unfold divLo divHi spanLo spanHi
  split
  · omega
  · split <;> omega
set_option maxHeartbeats 4000000 in
theorem do_in {op a b c d u v : Int} (h1 : itvOk a b = true) (h2 : itvOk c d = true) (u1 : a ≤ u) (u2 : u ≤ b) (v1 : c ≤ v) (v2 : v ≤ d) (h : doOk op u v = true) : itvDoOk op a b c d = true ∧ itvHas (itvDoLo op a b c d) (itvDoHi op a b c d) (doN op u v) = true := by
  have k1 := ok_all2 h1
  have k2 := ok_all2 h2
  have t : two a b c d = true := by simp [two, h1, h2]
  have h' := h
  simp only [doOk, Bool.and_eq_true, Bool.or_eq_true, decide_eq_true_eq] at h'
  obtain ⟨_, h'⟩ := h'
  rcases h' with ((rfl | rfl) | rfl) | ⟨rfl, hv⟩
  · have ok : itvDoOk 1 a b c d = true := by simp [itvDoOk, t]
    refine ⟨ok, ?_⟩
    have eL : itvDoLo 1 a b c d = foldLo (a + c) (b + d) := by rw [itvDoLo, if_pos ok]; simp
    have eH : itvDoHi 1 a b c d = foldHi (a + c) (b + d) := by rw [itvDoHi, if_pos ok]; simp
    have eN : doN 1 u v = wr (u + v) := by rw [doN, if_pos h]; simp
    rw [eL, eH, eN]
    exact fold_has (foldOk_mk (by omega) (by omega) (by omega)) (by omega) (by omega)
  · have ok : itvDoOk 2 a b c d = true := by simp [itvDoOk, t]
    refine ⟨ok, ?_⟩
    have eL : itvDoLo 2 a b c d = foldLo (a - d) (b - c) := by rw [itvDoLo, if_pos ok]; simp
    have eH : itvDoHi 2 a b c d = foldHi (a - d) (b - c) := by rw [itvDoHi, if_pos ok]; simp
    have eN : doN 2 u v = wr (u - v) := by rw [doN, if_pos h]; simp
    rw [eL, eH, eN]
    exact fold_has (foldOk_mk (by omega) (by omega) (by omega)) (by omega) (by omega)
  · have ok : itvDoOk 3 a b c d = true := by simp [itvDoOk, t]
    refine ⟨ok, ?_⟩
    have eL : itvDoLo 3 a b c d = foldLo (spanLo (a * c) (a * d) (b * c) (b * d)) (spanHi (a * c) (a * d) (b * c) (b * d)) := by rw [itvDoLo, if_pos ok]; simp
    have eH : itvDoHi 3 a b c d = foldHi (spanLo (a * c) (a * d) (b * c) (b * d)) (spanHi (a * c) (a * d) (b * c) (b * d)) := by rw [itvDoHi, if_pos ok]; simp
    have eN : doN 3 u v = wr (u * v) := by rw [doN, if_pos h]; simp
    rw [eL, eH, eN]
    obtain ⟨e1, e2⟩ := mul_span u1 u2 v1 v2
    have m1 := mul_bd a c (by omega) (by omega) (by omega) (by omega)
    have m2 := mul_bd a d (by omega) (by omega) (by omega) (by omega)
    have m3 := mul_bd b c (by omega) (by omega) (by omega) (by omega)
    have m4 := mul_bd b d (by omega) (by omega) (by omega) (by omega)
    refine fold_has (foldOk_mk ?_ ?_ (by omega)) e1 e2
    · unfold spanLo; omega
    · unfold spanHi; omega
  · have ok : itvDoOk 4 a b c d = true := by
      have n : ¬ (c = 0 ∧ d = 0) := by omega
      simp [itvDoOk, t]
      omega
    refine ⟨ok, ?_⟩
    have eL : itvDoLo 4 a b c d = foldLo (divLo a b c d) (divHi a b c d) := by rw [itvDoLo, if_pos ok]; simp
    have eH : itvDoHi 4 a b c d = foldHi (divLo a b c d) (divHi a b c d) := by rw [itvDoHi, if_pos ok]; simp
    have eN : doN 4 u v = wr (u.tdiv v) := by rw [doN, if_pos h]; simp
    rw [eL, eH, eN]
    obtain ⟨e1, e2⟩ := div_span u1 u2 v1 v2 hv
    obtain ⟨f1, f2⟩ := div_far (c := c) (d := d) (show -32768 ≤ a by omega) (by omega) (show -32768 ≤ b by omega) (by omega)
    exact fold_has (foldOk_mk (by omega) (by omega) (by omega)) e1 e2
end Go.Proofs.Ytceanngbcolbaaa
