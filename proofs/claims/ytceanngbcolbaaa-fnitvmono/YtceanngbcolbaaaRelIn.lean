/- What of two bounds stands so to the other is kept; each end of what is kept stands so to one of the ends; of less comes less. No program in it. -/
import Derived.Test.YtceanngbcolbaaaItvRelJ
import Derived.Test.YtceanngbcolbaaaDoIn
namespace Go.Proofs.Ytceanngbcolbaaa

theorem in_mk {x y p q : Int} (hp : itvOk p q = true) (e1 : p ≤ x) (e2 : x ≤ y) (e3 : y ≤ q) : itvIn x y p q = true := by
  have := ok_all2 hp
  simp only [itvIn, itvOk, okB, Bool.and_eq_true, decide_eq_true_eq]
  omega
theorem two_mk {a b c d : Int} (h1 : itvOk a b = true) (h2 : itvOk c d = true) : two a b c d = true := by simp [two, h1, h2]
theorem rel_1 {a b c d : Int} (h1 : itvOk a b = true) (h2 : itvOk c d = true) : itvRel 1 a b c d = both a (min b (d - 1)) (max c (a + 1)) d := by
  rw [itvRel, if_pos (two_mk h1 h2)]; rfl
theorem rel_2 {a b c d : Int} (h1 : itvOk a b = true) (h2 : itvOk c d = true) : itvRel 2 a b c d = both a (min b d) (max c a) d := by
  rw [itvRel, if_pos (two_mk h1 h2)]; rfl
theorem rel_3 {a b c d : Int} (h1 : itvOk a b = true) (h2 : itvOk c d = true) : itvRel 3 a b c d = both (max a c) (min b d) (max a c) (min b d) := by
  rw [itvRel, if_pos (two_mk h1 h2)]; rfl
theorem rel_4 {a b c d : Int} (h1 : itvOk a b = true) (h2 : itvOk c d = true) : itvRel 4 a b c d = both (woLo a c d) (woHi b c d) (woLo c a b) (woHi d a b) := by
  rw [← wo_both (ok_all2 h1).2.2.2.2 (ok_all2 h2).2.2.2.2, itvRel, if_pos (two_mk h1 h2)]; rfl
theorem rel_n {rel a b c d : Int} (n1 : rel ≠ 1) (n2 : rel ≠ 2) (n3 : rel ≠ 3) (n4 : rel ≠ 4) : itvRel rel a b c d = Two.none := by
  simp [itvRel, n1, n2, n3, n4]
theorem woLo_is (a c d : Int) : (c = d ∧ a = c ∧ woLo a c d = a + 1) ∨ (¬ (c = d ∧ a = c) ∧ woLo a c d = a) := by
  unfold woLo; split <;> simp_all
theorem woHi_is (b c d : Int) : (c = d ∧ b = c ∧ woHi b c d = b - 1) ∨ (¬ (c = d ∧ b = c) ∧ woHi b c d = b) := by
  unfold woHi; split <;> simp_all
theorem both_yes {a b c d : Int} (h1 : a ≤ b) (h2 : c ≤ d) : both a b c d = ⟨a, b, c, d, true⟩ := by rw [both, if_pos ⟨h1, h2⟩]
theorem both_ok {a b c d : Int} (h : (both a b c d).ok = true) : a ≤ b ∧ c ≤ d := by
  unfold both at h
  split at h
  · assumption
  · cases h
set_option maxHeartbeats 4000000 in
/-- What stands so is kept. -/
theorem rel_in {rel a b c d u v : Int} (h1 : itvOk a b = true) (h2 : itvOk c d = true) (u1 : a ≤ u) (u2 : u ≤ b) (v1 : c ≤ v) (v2 : v ≤ d) (h : relB rel u v = true) :
    (itvRel rel a b c d).ok = true ∧ itvHas (itvRel rel a b c d).l0 (itvRel rel a b c d).h0 u = true ∧ itvHas (itvRel rel a b c d).l1 (itvRel rel a b c d).h1 v = true := by
  have k1 := ok_all2 h1
  have k2 := ok_all2 h2
  by_cases r1 : rel = 1
  · subst r1
    have hh : u < v := by simpa [relB] using h
    rw [rel_1 h1 h2, both_yes (by omega) (by omega)]
    dsimp only
    exact ⟨rfl, has_mk (by omega) (by omega) (by omega) (by omega), has_mk (by omega) (by omega) (by omega) (by omega)⟩
  by_cases r2 : rel = 2
  · subst r2
    have hh : u ≤ v := by simpa [relB] using h
    rw [rel_2 h1 h2, both_yes (by omega) (by omega)]
    dsimp only
    exact ⟨rfl, has_mk (by omega) (by omega) (by omega) (by omega), has_mk (by omega) (by omega) (by omega) (by omega)⟩
  by_cases r3 : rel = 3
  · subst r3
    have hh : u = v := by simpa [relB] using h
    rw [rel_3 h1 h2, both_yes (by omega) (by omega)]
    dsimp only
    exact ⟨rfl, has_mk (by omega) (by omega) (by omega) (by omega), has_mk (by omega) (by omega) (by omega) (by omega)⟩
  by_cases r4 : rel = 4
  · subst r4
    have hh : u ≠ v := by simpa [relB] using h
    have w1 := woLo_is a c d
    have w2 := woHi_is b c d
    have w3 := woLo_is c a b
    have w4 := woHi_is d a b
    rw [rel_4 h1 h2, both_yes (by omega) (by omega)]
    dsimp only
    exact ⟨rfl, has_mk (by omega) (by omega) (by omega) (by omega), has_mk (by omega) (by omega) (by omega) (by omega)⟩
  · simp [relB, r1, r2, r3, r4] at h
set_option maxHeartbeats 4000000 in
/-- Each end of what was kept stands so to one of the other's ends. -/
theorem rel_ends {rel a b c d : Int} (h1 : itvOk a b = true) (h2 : itvOk c d = true) (h : (itvRel rel a b c d).ok = true) :
    itvIn (itvRel rel a b c d).l0 (itvRel rel a b c d).h0 a b = true ∧ itvIn (itvRel rel a b c d).l1 (itvRel rel a b c d).h1 c d = true ∧
    (relB rel (itvRel rel a b c d).l0 (itvRel rel a b c d).l1 || relB rel (itvRel rel a b c d).l0 (itvRel rel a b c d).h1) = true ∧
    (relB rel (itvRel rel a b c d).h0 (itvRel rel a b c d).l1 || relB rel (itvRel rel a b c d).h0 (itvRel rel a b c d).h1) = true ∧
    (relB rel (itvRel rel a b c d).l0 (itvRel rel a b c d).l1 || relB rel (itvRel rel a b c d).h0 (itvRel rel a b c d).l1) = true ∧
    (relB rel (itvRel rel a b c d).l0 (itvRel rel a b c d).h1 || relB rel (itvRel rel a b c d).h0 (itvRel rel a b c d).h1) = true := by
  have k1 := ok_all2 h1
  have k2 := ok_all2 h2
  by_cases r1 : rel = 1
  · subst r1
    rw [rel_1 h1 h2] at h ⊢
    have k := both_ok h
    rw [both_yes k.1 k.2]
    dsimp only
    refine ⟨in_mk h1 (by omega) (by omega) (by omega), in_mk h2 (by omega) (by omega) (by omega), ?_, ?_, ?_, ?_⟩ <;> simp [relB] <;> omega
  by_cases r2 : rel = 2
  · subst r2
    rw [rel_2 h1 h2] at h ⊢
    have k := both_ok h
    rw [both_yes k.1 k.2]
    dsimp only
    refine ⟨in_mk h1 (by omega) (by omega) (by omega), in_mk h2 (by omega) (by omega) (by omega), ?_, ?_, ?_, ?_⟩ <;> simp [relB] <;> omega
  by_cases r3 : rel = 3
  · subst r3
    rw [rel_3 h1 h2] at h ⊢
    have k := both_ok h
    rw [both_yes k.1 k.2]
    dsimp only
    refine ⟨in_mk h1 (by omega) (by omega) (by omega), in_mk h2 (by omega) (by omega) (by omega), ?_, ?_, ?_, ?_⟩ <;> simp [relB]
  by_cases r4 : rel = 4
  · subst r4
    have w1 := woLo_is a c d
    have w2 := woHi_is b c d
    have w3 := woLo_is c a b
    have w4 := woHi_is d a b
    rw [rel_4 h1 h2] at h ⊢
    have k := both_ok h
    rw [both_yes k.1 k.2]
    dsimp only
    refine ⟨in_mk h1 (by omega) (by omega) (by omega), in_mk h2 (by omega) (by omega) (by omega), ?_, ?_, ?_, ?_⟩ <;> simp [relB] <;> omega
  · rw [rel_n r1 r2 r3 r4] at h; cases h
set_option maxHeartbeats 4000000 in
/-- Of less comes less. -/
theorem rel_mono {rel a b c d a' b' c' d' : Int} (h1 : itvOk a b = true) (h2 : itvOk c d = true) (h1' : itvOk a' b' = true) (h2' : itvOk c' d' = true) (e1 : a ≤ a') (e2 : b' ≤ b) (e3 : c ≤ c') (e4 : d' ≤ d) (h : (itvRel rel a' b' c' d').ok = true) :
    (itvRel rel a b c d).ok = true ∧ itvIn (itvRel rel a' b' c' d').l0 (itvRel rel a' b' c' d').h0 (itvRel rel a b c d).l0 (itvRel rel a b c d).h0 = true ∧ itvIn (itvRel rel a' b' c' d').l1 (itvRel rel a' b' c' d').h1 (itvRel rel a b c d).l1 (itvRel rel a b c d).h1 = true := by
  have k1 := ok_all2 h1
  have k2 := ok_all2 h2
  have k1' := ok_all2 h1'
  have k2' := ok_all2 h2'
  have okm : ∀ {x y : Int}, -32768 ≤ x → x ≤ y → y ≤ 32767 → itvOk x y = true := by
    intro x y e1 e2 e3
    simp only [itvOk, okB, Bool.and_eq_true, decide_eq_true_eq]; omega
  by_cases r1 : rel = 1
  · subst r1
    rw [rel_1 h1' h2'] at h ⊢
    have k := both_ok h
    rw [both_yes k.1 k.2, rel_1 h1 h2, both_yes (by omega) (by omega)]
    dsimp only
    exact ⟨rfl, in_mk (okm (by omega) (by omega) (by omega)) (by omega) (by omega) (by omega), in_mk (okm (by omega) (by omega) (by omega)) (by omega) (by omega) (by omega)⟩
  by_cases r2 : rel = 2
  · subst r2
    rw [rel_2 h1' h2'] at h ⊢
    have k := both_ok h
    rw [both_yes k.1 k.2, rel_2 h1 h2, both_yes (by omega) (by omega)]
    dsimp only
    exact ⟨rfl, in_mk (okm (by omega) (by omega) (by omega)) (by omega) (by omega) (by omega), in_mk (okm (by omega) (by omega) (by omega)) (by omega) (by omega) (by omega)⟩
  by_cases r3 : rel = 3
  · subst r3
    rw [rel_3 h1' h2'] at h ⊢
    have k := both_ok h
    rw [both_yes k.1 k.2, rel_3 h1 h2, both_yes (by omega) (by omega)]
    dsimp only
    exact ⟨rfl, in_mk (okm (by omega) (by omega) (by omega)) (by omega) (by omega) (by omega), in_mk (okm (by omega) (by omega) (by omega)) (by omega) (by omega) (by omega)⟩
  by_cases r4 : rel = 4
  · subst r4
    have w1 := woLo_is a c d
    have w2 := woHi_is b c d
    have w3 := woLo_is c a b
    have w4 := woHi_is d a b
    have w1' := woLo_is a' c' d'
    have w2' := woHi_is b' c' d'
    have w3' := woLo_is c' a' b'
    have w4' := woHi_is d' a' b'
    rw [rel_4 h1' h2'] at h ⊢
    have k := both_ok h
    have q1 : woLo a c d ≤ woLo a' c' d' := by clear w2 w3 w4 w2' w3' w4'; omega
    have q2 : woHi b' c' d' ≤ woHi b c d := by clear w1 w3 w4 w1' w3' w4'; omega
    have q3 : woLo c a b ≤ woLo c' a' b' := by clear w1 w2 w4 w1' w2' w4'; omega
    have q4 : woHi d' a' b' ≤ woHi d a b := by clear w1 w2 w3 w1' w2' w3'; omega
    have z1 : -32768 ≤ woLo a c d := by clear w2 w3 w4 w1' w2' w3' w4'; omega
    have z2 : woHi b c d ≤ 32767 := by clear w1 w3 w4 w1' w2' w3' w4'; omega
    have z3 : -32768 ≤ woLo c a b := by clear w1 w2 w4 w1' w2' w3' w4'; omega
    have z4 : woHi d a b ≤ 32767 := by clear w1 w2 w3 w1' w2' w3' w4'; omega
    clear w1 w2 w3 w4 w1' w2' w3' w4'
    rw [both_yes k.1 k.2, rel_4 h1 h2, both_yes (by omega) (by omega)]
    dsimp only
    exact ⟨rfl, in_mk (okm (by omega) (by omega) (by omega)) (by omega) (by omega) (by omega), in_mk (okm (by omega) (by omega) (by omega)) (by omega) (by omega) (by omega)⟩
  · rw [rel_n r1 r2 r3 r4] at h; cases h
set_option maxHeartbeats 4000000 in
theorem not_mono {rel a b c d a' b' c' d' : Int} (h1 : itvOk a b = true) (h2 : itvOk c d = true) (h1' : itvOk a' b' = true) (h2' : itvOk c' d' = true) (e1 : a ≤ a') (e2 : b' ≤ b) (e3 : c ≤ c') (e4 : d' ≤ d) (h : (itvNot rel a' b' c' d').ok = true) :
    (itvNot rel a b c d).ok = true ∧ itvIn (itvNot rel a' b' c' d').l0 (itvNot rel a' b' c' d').h0 (itvNot rel a b c d).l0 (itvNot rel a b c d).h0 = true ∧ itvIn (itvNot rel a' b' c' d').l1 (itvNot rel a' b' c' d').h1 (itvNot rel a b c d).l1 (itvNot rel a b c d).h1 = true := by
  unfold itvNot at h ⊢
  by_cases r1 : rel = 1
  · simp only [r1, if_true] at h ⊢
    have := rel_mono h2 h1 h2' h1' e3 e4 e1 e2 h
    exact ⟨this.1, this.2.2, this.2.1⟩
  by_cases r2 : rel = 2
  · subst r2
    simp only [show ¬ (2 : Int) = 1 by omega, if_false, if_true] at h ⊢
    have := rel_mono h2 h1 h2' h1' e3 e4 e1 e2 h
    exact ⟨this.1, this.2.2, this.2.1⟩
  by_cases r3 : rel = 3
  · subst r3
    simp only [show ¬ (3 : Int) = 1 by omega, show ¬ (3 : Int) = 2 by omega, if_false, if_true] at h ⊢
    exact rel_mono h1 h2 h1' h2' e1 e2 e3 e4 h
  by_cases r4 : rel = 4
  · subst r4
    simp only [show ¬ (4 : Int) = 1 by omega, show ¬ (4 : Int) = 2 by omega, show ¬ (4 : Int) = 3 by omega, if_false, if_true] at h ⊢
    exact rel_mono h1 h2 h1' h2' e1 e2 e3 e4 h
  · simp [r1, r2, r3, r4, Two.none] at h
/-- What does not stand so is kept by the other one. -/
theorem not_in {rel a b c d u v : Int} (h1 : itvOk a b = true) (h2 : itvOk c d = true) (u1 : a ≤ u) (u2 : u ≤ b) (v1 : c ≤ v) (v2 : v ≤ d) (r0 : 1 ≤ rel) (r9 : rel ≤ 4) (h : relB rel u v = false) :
    (itvNot rel a b c d).ok = true ∧ itvHas (itvNot rel a b c d).l0 (itvNot rel a b c d).h0 u = true ∧ itvHas (itvNot rel a b c d).l1 (itvNot rel a b c d).h1 v = true := by
  unfold itvNot
  rcases (show rel = 1 ∨ rel = 2 ∨ rel = 3 ∨ rel = 4 by omega) with rfl | rfl | rfl | rfl
  · simp only [if_true]
    have := rel_in (rel := 2) h2 h1 v1 v2 u1 u2 (by simp [relB] at h ⊢; omega)
    exact ⟨this.1, this.2.2, this.2.1⟩
  · simp only [show ¬ (2 : Int) = 1 by omega, if_false, if_true]
    have := rel_in (rel := 1) h2 h1 v1 v2 u1 u2 (by simp [relB] at h ⊢; omega)
    exact ⟨this.1, this.2.2, this.2.1⟩
  · simp only [show ¬ (3 : Int) = 1 by omega, show ¬ (3 : Int) = 2 by omega, if_false, if_true]
    exact rel_in (rel := 4) h1 h2 u1 u2 v1 v2 (by simp [relB] at h ⊢; omega)
  · simp only [show ¬ (4 : Int) = 1 by omega, show ¬ (4 : Int) = 2 by omega, show ¬ (4 : Int) = 3 by omega, if_false, if_true]
    exact rel_in (rel := 3) h1 h2 u1 u2 v1 v2 (by simp [relB] at h ⊢; omega)
/-- Of a pair that there is one of both is some. -/
theorem rel_or {rel a b c d : Int} (h1 : itvOk a b = true) (h2 : itvOk c d = true) (r0 : 1 ≤ rel) (r9 : rel ≤ 4) : ((itvRel rel a b c d).ok || (itvNot rel a b c d).ok) = true := by
  have k1 := ok_all2 h1
  have k2 := ok_all2 h2
  cases h : relB rel a c
  · rw [(not_in h1 h2 (Int.le_refl a) (by omega) (Int.le_refl c) (by omega) r0 r9 h).1]; simp
  · rw [(rel_in h1 h2 (Int.le_refl a) (by omega) (Int.le_refl c) (by omega) h).1]; simp
theorem not_no {rel a b c d : Int} (h : itvOk a b = false ∨ itvOk c d = false ∨ rel < 1 ∨ 4 < rel) : (itvNot rel a b c d).ok = false := by
  have t : ∀ r p q s t, (two p q s t = false) → (itvRel r p q s t).ok = false := by
    intro r p q s t ht
    simp [itvRel, ht, Two.none]
  rcases h with h | h | h | h
  · unfold itvNot
    split
    · exact t _ _ _ _ _ (by simp [two, h])
    split
    · exact t _ _ _ _ _ (by simp [two, h])
    split
    · exact t _ _ _ _ _ (by simp [two, h])
    split
    · exact t _ _ _ _ _ (by simp [two, h])
    · rfl
  · unfold itvNot
    split
    · exact t _ _ _ _ _ (by simp [two, h])
    split
    · exact t _ _ _ _ _ (by simp [two, h])
    split
    · exact t _ _ _ _ _ (by simp [two, h])
    split
    · exact t _ _ _ _ _ (by simp [two, h])
    · rfl
  · rw [itvNot, if_neg (by omega), if_neg (by omega), if_neg (by omega), if_neg (by omega)]; rfl
  · rw [itvNot, if_neg (by omega), if_neg (by omega), if_neg (by omega), if_neg (by omega)]; rfl
theorem rel_no {rel a b c d : Int} (h : itvOk a b = false ∨ itvOk c d = false) : (itvRel rel a b c d).ok = false := by
  rcases h with h | h <;> simp [itvRel, two, h, Two.none]
end Go.Proofs.Ytceanngbcolbaaa
