/- Bounds' texts, plainly, no program in it: a numeral has no dot, so a text is that of one pair of bounds at most, and its first two dots part it. -/
import Derived.Test.YtceanngbcolbaaaDoorPlainItv
import Derived.Lib.Index
import Derived.Lib.IndexMore
namespace Go.Proofs.YtceanngbcolbaaaDoor

def itvTx (a b : Int) : List UInt8 := Lib.itoa a ++ ([46, 46] ++ Lib.itoa b)
theorem dgt_nodot (k : Nat) (h : k < 10) : dgt k ≠ 46 := by
  rcases (show k = 0 ∨ k = 1 ∨ k = 2 ∨ k = 3 ∨ k = 4 ∨ k = 5 ∨ k = 6 ∨ k = 7 ∨ k = 8 ∨ k = 9 by omega) with rfl | rfl | rfl | rfl | rfl | rfl | rfl | rfl | rfl | rfl <;> decide
theorem dec_nodot (u : Nat) : (46 : UInt8) ∉ Lib.decDigits u := by
  induction u using Nat.strongRecOn with
  | ind u ih =>
    by_cases h : u < 10
    · rw [dec_small u h]
      simp
      exact fun e => dgt_nodot u h e.symm
    · rw [dec_step u h]
      simp
      exact ⟨ih (u / 10) (by omega), fun e => dgt_nodot (u % 10) (by omega) e.symm⟩
theorem itoa_nodot (n : Int) : (46 : UInt8) ∉ Lib.itoa n := by
  unfold Lib.itoa
  split
  · simp
    exact dec_nodot _
  · exact dec_nodot _
theorem itoa_small {n : Int} (h : okB n = true) : (Lib.itoa n).length ≤ 6 ∧ 1 ≤ (Lib.itoa n).length := by
  have a1 := ok_lo h
  have a2 := ok_hi h
  unfold Lib.itoa
  split
  · have k := dec_length n.natAbs (by omega)
    by_cases h5 : (Lib.decDigits n.natAbs).length ≤ 5
    · simp; omega
    · exfalso
      have : n.natAbs < 100000 := by omega
      have e : (Lib.decDigits n.natAbs).length ≤ 5 := by
        by_cases q0 : n.natAbs < 10
        · rw [dec_small _ q0]; simp
        rw [dec_step _ q0]
        by_cases q1 : n.natAbs / 10 < 10
        · rw [dec_small _ q1]; simp
        rw [dec_step _ q1]
        by_cases q2 : n.natAbs / 10 / 10 < 10
        · rw [dec_small _ q2]; simp
        rw [dec_step _ q2]
        by_cases q3 : n.natAbs / 10 / 10 / 10 < 10
        · rw [dec_small _ q3]; simp
        rw [dec_step _ q3]
        by_cases q4 : n.natAbs / 10 / 10 / 10 / 10 < 10
        · rw [dec_small _ q4]; simp
        · omega
      exact h5 e
  · have k := dec_length n.toNat (by omega)
    omega
/-- Two dots behind what has none part a text in one way. -/
theorem dots_inj : ∀ {x x' y y' : List UInt8}, (46 : UInt8) ∉ x → (46 : UInt8) ∉ x' → x ++ ([46, 46] ++ y) = x' ++ ([46, 46] ++ y') → x = x' ∧ y = y'
  | [], [], y, y', _, _, h => by simpa using h
  | [], c :: x', y, y', _, h2, h => by
    simp at h
    exact absurd (by rw [h.1]; simp) h2
  | c :: x, [], y, y', h1, _, h => by
    simp at h
    exact absurd (by rw [h.1]; simp) h1
  | c :: x, c' :: x', y, y', h1, h2, h => by
    simp at h
    obtain ⟨rfl, h⟩ := h
    have k := dots_inj (x := x) (x' := x') (y := y) (y' := y') (by simp at h1; exact h1.2) (by simp at h2; exact h2.2) (by simpa using h)
    exact ⟨by rw [k.1], k.2⟩
theorem occ_dots {x y : List UInt8} : Lib.occAt (x ++ ([46, 46] ++ y)) [46, 46] x.length = true := by
  unfold Lib.occAt
  rw [List.drop_left]
  simp
/-- What has no dot ahead of two dots: they are the first two. -/
theorem index_dots {x y : List UInt8} (hx : (46 : UInt8) ∉ x) : Lib.index (x ++ ([46, 46] ++ y)) [46, 46] = x.length := by
  refine Lib.index_first (by simp) occ_dots fun j hj => ?_
  by_cases h : Lib.occAt (x ++ ([46, 46] ++ y)) [46, 46] j = true
  · have k := Lib.occAt_head rfl h
    rw [List.getElem?_append_left hj] at k
    exact absurd (List.mem_of_getElem? k) hx
  · simpa using h
theorem index_occ : ∀ (s sub : List UInt8), 0 ≤ Lib.index s sub → Lib.occAt s sub (Lib.index s sub).toNat = true
  | [], sub, h => by
    unfold Lib.index at *
    split at h
    · rename_i hs
      rw [if_pos hs]
      simp at hs
      subst hs
      rfl
    · omega
  | b :: l, sub, h => by
    unfold Lib.index at *
    by_cases h0 : sub.isPrefixOf (b :: l) = true
    · rw [if_pos h0]
      simpa [Lib.occAt] using h0
    · rw [if_neg h0] at h ⊢
      by_cases h1 : (Lib.index l sub == -1) = true
      · rw [if_pos h1] at h; omega
      · rw [if_neg h1] at h ⊢
        have g := Lib.index_ge l sub
        have n1 : Lib.index l sub ≠ -1 := by simpa using h1
        have ih := index_occ l sub (by omega)
        have e : (Lib.index l sub + 1).toNat = (Lib.index l sub).toNat + 1 := by omega
        rw [e]
        simpa [Lib.occAt] using ih
theorem cut_found {l : List UInt8} (h : 0 ≤ Lib.index l [46, 46]) : l = l.take (Lib.index l [46, 46]).toNat ++ ([46, 46] ++ l.drop ((Lib.index l [46, 46]).toNat + 2)) := by
  have k := index_occ l [46, 46] h
  generalize (Lib.index l [46, 46]).toNat = i at k
  unfold Lib.occAt at k
  have e := List.prefix_iff_eq_append.1 (List.isPrefixOf_iff_prefix.1 k)
  simp at e
  have e2 : l.drop i = [46, 46] ++ l.drop (i + 2) := by simpa [Nat.add_comm] using e.symm
  rw [← e2]
  exact (List.take_append_drop i l).symm
/-- What ItvRead tells of a text: its bounds, or that it is no bounds' text. -/
def IsItv (l : List UInt8) (x y : Int) (b : Bool) : Prop :=
  (b = true ∧ itvOk x y = true ∧ itvTx x y = l) ∨ (b = false ∧ x = 0 ∧ y = 0 ∧ ∀ p q, itvOk p q = true → itvTx p q ≠ l)
theorem itvTx_inj {a b c d : Int} (h1 : itvOk a b = true) (h2 : itvOk c d = true) (h : itvTx a b = itvTx c d) : a = c ∧ b = d := by
  obtain ⟨k1, k2⟩ := dots_inj (itoa_nodot a) (itoa_nodot c) h
  exact ⟨itoa_inj (itvOk_of h1).1 (itvOk_of h2).1 k1, itoa_inj (itvOk_of h1).2.1 (itvOk_of h2).2.1 k2⟩
theorem isItv_one {l : List UInt8} {x y x' y' : Int} {b b' : Bool} (h : IsItv l x y b) (h' : IsItv l x' y' b') : x = x' ∧ y = y' ∧ b = b' := by
  rcases h with ⟨rfl, h1, h2⟩ | ⟨rfl, rfl, rfl, h2⟩
  · rcases h' with ⟨rfl, k1, k2⟩ | ⟨rfl, rfl, rfl, k2⟩
    · obtain ⟨e1, e2⟩ := itvTx_inj h1 k1 (h2.trans k2.symm)
      exact ⟨e1, e2, rfl⟩
    · exact absurd h2 (k2 x y h1)
  · rcases h' with ⟨rfl, k1, k2⟩ | ⟨rfl, rfl, rfl, k2⟩
    · exact absurd k2 (h2 x' y' k1)
    · exact ⟨rfl, rfl, rfl⟩
/-- A text that two dots part, what is ahead of them having none within six: what both parts' readers tell. -/
theorem isItv_parts {l u v : List UInt8} (hl : l = u ++ ([46, 46] ++ v)) (hu : ∀ x y, itvOk x y = true → itvTx x y = l → u = Lib.itoa x) {n1 n2 : Int} {b1 b2 : Bool} (r1 : IsRead u n1 b1) (r2 : IsRead v n2 b2) :
    IsItv l (if b1 && b2 && decide (n1 ≤ n2) then n1 else 0) (if b1 && b2 && decide (n1 ≤ n2) then n2 else 0) (b1 && b2 && decide (n1 ≤ n2)) := by
  by_cases hb : (b1 && b2 && decide (n1 ≤ n2)) = true
  · rw [hb]
    simp only [Bool.and_eq_true, decide_eq_true_eq] at hb
    obtain ⟨⟨rfl, rfl⟩, h3⟩ := hb
    rcases r1 with ⟨_, o1, e1⟩ | ⟨h, _⟩
    · rcases r2 with ⟨_, o2, e2⟩ | ⟨h, _⟩
      · refine .inl ⟨rfl, by simp [itvOk, o1, o2, h3], ?_⟩
        rw [if_pos rfl, if_pos rfl, itvTx, e1, e2, hl]
      · cases h
    · cases h
  · have hb' : (b1 && b2 && decide (n1 ≤ n2)) = false := by simpa using hb
    rw [hb']
    refine .inr ⟨rfl, rfl, rfl, fun p q hpq e => hb ?_⟩
    have hu1 := hu p q hpq e
    subst hu1
    rw [hl] at e
    have e2 : Lib.itoa q = v := by
      unfold itvTx at e
      simpa using e
    obtain ⟨o1, o2, o3⟩ := itvOk_of hpq
    obtain ⟨k1, k2⟩ := isRead_one r1 (.inl ⟨rfl, o1, rfl⟩)
    obtain ⟨k3, k4⟩ := isRead_one r2 (.inl ⟨rfl, o2, e2⟩)
    simp [k1, k2, k3, k4, o3]
end Go.Proofs.YtceanngbcolbaaaDoor
