/- Of less comes less: what is reckoned with bounds within others is within what is reckoned with those. No program in it. -/
import Derived.Test.YtceanngbcolbaaaRelIn
namespace Go.Proofs.Ytceanngbcolbaaa

set_option maxHeartbeats 4000000 in
theorem fold_mono {lo hi lo' hi' : Int} (h : foldOk lo hi = true) (e1 : lo ≤ lo') (e0 : lo' ≤ hi') (e2 : hi' ≤ hi) : itvIn (foldLo lo' hi') (foldHi lo' hi') (foldLo lo hi) (foldHi lo hi) = true := by
  have h' : foldOk lo' hi' = true := by
    simp only [foldOk, far, Bool.and_eq_true, decide_eq_true_eq] at h ⊢
    omega
  have a1 := off_turn lo
  have a2 := off_turn lo'
  have a3 := off_turn hi
  have a4 := off_turn hi'
  have t1 : turn lo ≤ turn lo' := by unfold turn; omega
  have t2 : turn lo' ≤ turn hi' := by unfold turn; omega
  have t3 : turn hi' ≤ turn hi := by unfold turn; omega
  have b1 := wr_lo lo
  have b2 := wr_lo lo'
  have b3 := wr_lo hi
  have b4 := wr_lo hi'
  have c1 := wr_hi lo
  have c2 := wr_hi lo'
  have c3 := wr_hi hi
  have c4 := wr_hi hi'
  rw [foldLo, foldHi, foldLo, foldHi, if_pos h, if_pos h, if_pos h', if_pos h']
  simp only [itvIn, itvOk, okB, Bool.and_eq_true, decide_eq_true_eq]
  by_cases e : turn lo = turn hi
  · rw [if_pos e, if_pos e, if_pos (show turn lo' = turn hi' by omega), if_pos (show turn lo' = turn hi' by omega)]
    omega
  · rw [if_neg e, if_neg e]
    split <;> omega
set_option maxHeartbeats 4000000 in
theorem do_mono {op a b c d a' b' c' d' : Int} (h1 : itvOk a b = true) (h2 : itvOk c d = true) (h1' : itvOk a' b' = true) (h2' : itvOk c' d' = true) (e1 : a ≤ a') (e2 : b' ≤ b) (e3 : c ≤ c') (e4 : d' ≤ d) (h : itvDoOk op a' b' c' d' = true) :
    itvDoOk op a b c d = true ∧ itvIn (itvDoLo op a' b' c' d') (itvDoHi op a' b' c' d') (itvDoLo op a b c d) (itvDoHi op a b c d) = true := by
  have k1 := ok_all2 h1
  have k2 := ok_all2 h2
  have k1' := ok_all2 h1'
  have k2' := ok_all2 h2'
  have t : two a b c d = true := by simp [two, h1, h2]
  have h' := h
  simp only [itvDoOk, Bool.and_eq_true, Bool.or_eq_true, beq_iff_eq, Bool.not_eq_true', Bool.and_eq_false_iff, beq_eq_false_iff_ne] at h'
  obtain ⟨-, h'⟩ := h'
  rcases h' with ((rfl | rfl) | rfl) | ⟨rfl, hv⟩
  · have ok : itvDoOk 1 a b c d = true := by simp [itvDoOk, t]
    refine ⟨ok, ?_⟩
    have eL : ∀ {p q r s : Int}, itvDoOk 1 p q r s = true → itvDoLo 1 p q r s = foldLo (p + r) (q + s) := fun o => by rw [itvDoLo, if_pos o]; simp
    have eH : ∀ {p q r s : Int}, itvDoOk 1 p q r s = true → itvDoHi 1 p q r s = foldHi (p + r) (q + s) := fun o => by rw [itvDoHi, if_pos o]; simp
    rw [eL ok, eH ok, eL h, eH h]
    exact fold_mono (foldOk_mk (by omega) (by omega) (by omega)) (by omega) (by omega) (by omega)
  · have ok : itvDoOk 2 a b c d = true := by simp [itvDoOk, t]
    refine ⟨ok, ?_⟩
    have eL : ∀ {p q r s : Int}, itvDoOk 2 p q r s = true → itvDoLo 2 p q r s = foldLo (p - s) (q - r) := fun o => by rw [itvDoLo, if_pos o]; simp
    have eH : ∀ {p q r s : Int}, itvDoOk 2 p q r s = true → itvDoHi 2 p q r s = foldHi (p - s) (q - r) := fun o => by rw [itvDoHi, if_pos o]; simp
    rw [eL ok, eH ok, eL h, eH h]
    exact fold_mono (foldOk_mk (by omega) (by omega) (by omega)) (by omega) (by omega) (by omega)
  · have ok : itvDoOk 3 a b c d = true := by simp [itvDoOk, t]
    refine ⟨ok, ?_⟩
    have eL : ∀ {p q r s : Int}, itvDoOk 3 p q r s = true → itvDoLo 3 p q r s = foldLo (spanLo (p * r) (p * s) (q * r) (q * s)) (spanHi (p * r) (p * s) (q * r) (q * s)) := fun o => by rw [itvDoLo, if_pos o]; simp
    have eH : ∀ {p q r s : Int}, itvDoOk 3 p q r s = true → itvDoHi 3 p q r s = foldHi (spanLo (p * r) (p * s) (q * r) (q * s)) (spanHi (p * r) (p * s) (q * r) (q * s)) := fun o => by rw [itvDoHi, if_pos o]; simp
    rw [eL ok, eH ok, eL h, eH h]
    have m1 := mul_bd a c (by omega) (by omega) (by omega) (by omega)
    have m2 := mul_bd a d (by omega) (by omega) (by omega) (by omega)
    have m3 := mul_bd b c (by omega) (by omega) (by omega) (by omega)
    have m4 := mul_bd b d (by omega) (by omega) (by omega) (by omega)
    obtain ⟨s1, s2⟩ := mul_span (u := a') (v := c') (a := a) (b := b) (c := c) (d := d) (by omega) (by omega) (by omega) (by omega)
    obtain ⟨s3, s4⟩ := mul_span (u := a') (v := d') (a := a) (b := b) (c := c) (d := d) (by omega) (by omega) (by omega) (by omega)
    obtain ⟨s5, s6⟩ := mul_span (u := b') (v := c') (a := a) (b := b) (c := c) (d := d) (by omega) (by omega) (by omega) (by omega)
    obtain ⟨s7, s8⟩ := mul_span (u := b') (v := d') (a := a) (b := b) (c := c) (d := d) (by omega) (by omega) (by omega) (by omega)
    have y1 : -1099511627776 ≤ spanLo (a * c) (a * d) (b * c) (b * d) := by unfold spanLo; omega
    have y2 : spanHi (a * c) (a * d) (b * c) (b * d) ≤ 1099511627776 := by unfold spanHi; omega
    generalize spanLo (a * c) (a * d) (b * c) (b * d) = L at *
    generalize spanHi (a * c) (a * d) (b * c) (b * d) = H at *
    refine fold_mono (foldOk_mk y1 y2 (by omega)) ?_ ?_ ?_
    · unfold spanLo; omega
    · unfold spanLo spanHi; omega
    · unfold spanHi; omega
  · have nv : ¬ (c' = 0 ∧ d' = 0) := by omega
    have ok : itvDoOk 4 a b c d = true := by
      have n : ¬ (c = 0 ∧ d = 0) := by omega
      simp [itvDoOk, t]
      omega
    refine ⟨ok, ?_⟩
    have eL : ∀ {p q r s : Int}, itvDoOk 4 p q r s = true → itvDoLo 4 p q r s = foldLo (divLo p q r s) (divHi p q r s) := fun o => by rw [itvDoLo, if_pos o]; simp
    have eH : ∀ {p q r s : Int}, itvDoOk 4 p q r s = true → itvDoHi 4 p q r s = foldHi (divLo p q r s) (divHi p q r s) := fun o => by rw [itvDoHi, if_pos o]; simp
    rw [eL ok, eH ok, eL h, eH h]
    obtain ⟨f1, f2⟩ := div_far (c := c) (d := d) (show -32768 ≤ a by omega) (by omega) (show -32768 ≤ b by omega) (by omega)
    have key : ∀ u v, a ≤ u → u ≤ b → c ≤ v → v ≤ d → v ≠ 0 → divLo a b c d ≤ u.tdiv v ∧ u.tdiv v ≤ divHi a b c d := fun u v p q r s z => div_span p q r s z
    have res : divLo a b c d ≤ divLo a' b' c' d' ∧ divLo a' b' c' d' ≤ divHi a' b' c' d' ∧ divHi a' b' c' d' ≤ divHi a b c d := by
      generalize divLo a b c d = L at *
      generalize divHi a b c d = H at *
      unfold divLo divHi
      by_cases q1 : 0 ≤ c'
      · rw [if_pos q1, if_pos q1]
        have x1 := key a' (max c' 1) (by omega) (by omega) (by omega) (by omega) (by omega)
        have x2 := key a' d' (by omega) (by omega) (by omega) (by omega) (by omega)
        have x3 := key b' (max c' 1) (by omega) (by omega) (by omega) (by omega) (by omega)
        have x4 := key b' d' (by omega) (by omega) (by omega) (by omega) (by omega)
        unfold spanLo spanHi
        omega
      · rw [if_neg q1, if_neg q1]
        by_cases q2 : d' ≤ 0
        · rw [if_pos q2, if_pos q2]
          have x1 := key a' c' (by omega) (by omega) (by omega) (by omega) (by omega)
          have x2 := key a' (min d' (-1)) (by omega) (by omega) (by omega) (by omega) (by omega)
          have x3 := key b' c' (by omega) (by omega) (by omega) (by omega) (by omega)
          have x4 := key b' (min d' (-1)) (by omega) (by omega) (by omega) (by omega) (by omega)
          unfold spanLo spanHi
          omega
        · rw [if_neg q2, if_neg q2]
          have x1 := key a' c' (by omega) (by omega) (by omega) (by omega) (by omega)
          have x2 := key a' (-1) (by omega) (by omega) (by omega) (by omega) (by omega)
          have x3 := key b' c' (by omega) (by omega) (by omega) (by omega) (by omega)
          have x4 := key b' (-1) (by omega) (by omega) (by omega) (by omega) (by omega)
          have x5 := key a' 1 (by omega) (by omega) (by omega) (by omega) (by omega)
          have x6 := key a' d' (by omega) (by omega) (by omega) (by omega) (by omega)
          have x7 := key b' 1 (by omega) (by omega) (by omega) (by omega) (by omega)
          have x8 := key b' d' (by omega) (by omega) (by omega) (by omega) (by omega)
          rw [Int.tdiv_one] at x5 x7
          unfold spanLo spanHi
          omega
    exact fold_mono (foldOk_mk (by omega) (by omega) (by omega)) res.1 res.2.1 res.2.2
end Go.Proofs.Ytceanngbcolbaaa
