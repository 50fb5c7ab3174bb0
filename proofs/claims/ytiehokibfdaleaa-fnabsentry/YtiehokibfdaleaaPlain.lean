/- Plain facts, no program in them: what is wrapped, how two stand, decimal numerals (a numeral of -32768..32767 is parsed as its number by either reader's rule, so a text is the numeral of at most one number). -/
import Derived.Lib.AtoiAll
import Derived.Lib.ItoaNum
import Derived.Lib.ItoaMem
namespace Go.Proofs.Ytiehokibfdaleaa

def okB (n : Int) : Bool := decide (-32768 ≤ n) && decide (n ≤ 32767)
theorem ok_lo {n : Int} (h : okB n = true) : -32768 ≤ n := by simp [okB] at h; omega
theorem ok_hi {n : Int} (h : okB n = true) : n ≤ 32767 := by simp [okB] at h; omega

def textOf (n : Int) : List UInt8 := if okB n then Lib.itoa n else []

def dgt (k : Nat) : UInt8 := UInt8.ofNat (48 + k)
theorem dgt_nat (k : Nat) (h : 48 + k < 256) : (dgt k).toNat = 48 + k := by unfold dgt; rw [UInt8.toNat_ofNat']; omega
theorem dec_small (k : Nat) (h : k < 10) : Lib.decDigits k = [dgt k] := by rw [Lib.decDigits, dif_pos h]; rfl
theorem dec_step (k : Nat) (h : ¬ k < 10) : Lib.decDigits k = Lib.decDigits (k / 10) ++ [dgt (k % 10)] := by rw [Lib.decDigits, dif_neg h]; rfl

/-- What digits say, read from the left; none if a byte is no digit. -/
def val (acc : Nat) : List UInt8 → Option Nat
  | [] => some acc
  | c :: r => if 48 ≤ c.toNat ∧ c.toNat ≤ 57 then val (acc * 10 + (c.toNat - 48)) r else none

theorem val_snoc (l : List UInt8) (c : UInt8) : ∀ acc v, val acc l = some v → 48 ≤ c.toNat → c.toNat ≤ 57 → val acc (l ++ [c]) = some (v * 10 + (c.toNat - 48)) := by
  induction l with
  | nil =>
    intro acc v h h1 h2
    simp only [val, Option.some.injEq] at h
    subst h
    simp [val, h1, h2]
  | cons x r ih =>
    intro acc v h h1 h2
    simp only [val] at h
    split at h
    · rename_i hx
      simp only [List.cons_append, val, hx, and_self, if_true]
      exact ih _ _ h h1 h2
    · cases h

theorem val_dec (u : Nat) : val 0 (Lib.decDigits u) = some u := by
  induction u using Nat.strongRecOn with
  | _ u ih =>
    by_cases h : u < 10
    · rw [dec_small u h]
      have e := dgt_nat u (by omega)
      simp only [val, e]
      rw [if_pos (by omega)]
      simp
    · rw [dec_step u h]
      have e := dgt_nat (u % 10) (by omega)
      rw [val_snoc _ _ 0 (u / 10) (ih (u / 10) (by omega)) (by omega) (by omega), e]
      congr 1
      omega

/-- The library's rule, where nothing overflows. -/
theorem parse_val (l : List UInt8) : ∀ acc v, val acc l = some v → acc * 10 ^ l.length + 10 ^ l.length ≤ 1000000000000 → Lib.parseUint10 acc l = .ok v := by
  induction l with
  | nil =>
    intro acc v h _
    simp only [val, Option.some.injEq] at h
    subst h
    rfl
  | cons c r ih =>
    intro acc v h hb
    simp only [val] at h
    split at h
    · rename_i hc
      simp only [List.length_cons, Nat.pow_succ] at hb
      have hp : 1 ≤ 10 ^ r.length := Nat.one_le_pow _ _ (by omega)
      have h1 : acc * 10 ≤ acc * (10 ^ r.length * 10) := Nat.mul_le_mul_left _ (by omega)
      have hd : c.toNat - 48 ≤ 9 := by omega
      have h2 : (acc * 10 + (c.toNat - 48)) * 10 ^ r.length + 10 ^ r.length ≤ acc * (10 ^ r.length * 10) + 10 ^ r.length * 10 := by
        rw [Nat.add_mul, Nat.mul_assoc, Nat.mul_comm 10 (10 ^ r.length)]
        have := Nat.mul_le_mul_right (10 ^ r.length) hd
        omega
      simp only [Lib.parseUint10]
      rw [if_pos hc, if_neg (by omega), if_neg (by omega)]
      exact ih _ _ h (by omega)
    · cases h

theorem dec_length (u : Nat) (h : u < 1000000) : 1 ≤ (Lib.decDigits u).length ∧ (Lib.decDigits u).length ≤ 6 := by
  by_cases h1 : u < 10
  · rw [dec_small u h1]; simp
  · rw [dec_step u h1]
    by_cases h2 : u / 10 < 10
    · rw [dec_small _ h2]; simp
    · rw [dec_step _ h2]
      by_cases h3 : u / 10 / 10 < 10
      · rw [dec_small _ h3]; simp
      · rw [dec_step _ h3]
        by_cases h4 : u / 10 / 10 / 10 < 10
        · rw [dec_small _ h4]; simp
        · rw [dec_step _ h4]
          by_cases h5 : u / 10 / 10 / 10 / 10 < 10
          · rw [dec_small _ h5]; simp
          · rw [dec_step _ h5, dec_small _ (by omega)]; simp

theorem dec_head (u : Nat) : ∃ c r, Lib.decDigits u = c :: r ∧ 48 ≤ c.toNat ∧ c.toNat ≤ 57 := by
  induction u using Nat.strongRecOn with
  | _ u ih =>
    by_cases h : u < 10
    · exact ⟨dgt u, [], dec_small u h, by have := dgt_nat u (by omega); omega, by have := dgt_nat u (by omega); omega⟩
    · obtain ⟨c, r, e, h1, h2⟩ := ih (u / 10) (by omega)
      exact ⟨c, r ++ [dgt (u % 10)], by rw [dec_step u h, e]; rfl, h1, h2⟩

theorem parse_dec (u : Nat) (h : u < 1000000) : Lib.parseMag (Lib.decDigits u) = .ok u := by
  obtain ⟨l1, l2⟩ := dec_length u h
  unfold Lib.parseMag
  rw [if_neg (by intro e; rw [e] at l1; simp at l1)]
  refine parse_val _ 0 u (val_dec u) ?_
  have := Nat.pow_le_pow_right (n := 10) (by omega) l2
  omega

/-- The library reads a number's numeral as the number. -/
theorem atoi_itoa (m : Int) (h : okB m = true) : Lib.atoiAll (Lib.itoa m) = .ok m := by
  have h1 := ok_lo h
  have h2 := ok_hi h
  by_cases hn : m < 0
  · obtain ⟨u, rfl⟩ : ∃ u : Nat, m = -(u : Int) := ⟨m.natAbs, by omega⟩
    rw [Lib.itoa_neg u (by omega)]
    have e : (45 : UInt8).toNat = 45 := rfl
    simp only [Lib.atoiAll, e]
    rw [if_pos (Or.inr trivial), parse_dec u (by omega)]
    simp
    omega
  · obtain ⟨u, rfl⟩ := Int.eq_ofNat_of_zero_le (by omega : 0 ≤ m)
    rw [Lib.itoa_nonneg u]
    obtain ⟨c, r, e, hc1, hc2⟩ := dec_head u
    have hp := parse_dec u (by omega)
    rw [e] at hp ⊢
    simp only [Lib.atoiAll]
    rw [if_neg (by omega), hp]
    have hne : ¬ c.toNat = 45 := by omega
    simp [hne]
    omega

/-- What NumRead tells of a text: its number, or that it is no number's text. -/
def IsRead (l : List UInt8) (n : Int) (b : Bool) : Prop :=
  (b = true ∧ okB n = true ∧ Lib.itoa n = l) ∨ (b = false ∧ n = 0 ∧ ∀ m, okB m = true → Lib.itoa m ≠ l)

theorem itoa_inj {m n : Int} (hm : okB m = true) (hn : okB n = true) (h : Lib.itoa m = Lib.itoa n) : m = n := by
  have a := atoi_itoa m hm
  rw [h, atoi_itoa n hn] at a
  exact (Lib.NumEnd.ok.inj a).symm

theorem isRead_one {l : List UInt8} {n n' : Int} {b b' : Bool} (h : IsRead l n b) (h' : IsRead l n' b') : n = n' ∧ b = b' := by
  rcases h with ⟨rfl, h1, h2⟩ | ⟨rfl, rfl, h2⟩
  · rcases h' with ⟨rfl, k1, k2⟩ | ⟨rfl, rfl, k2⟩
    · exact ⟨itoa_inj h1 k1 (h2.trans k2.symm), rfl⟩
    · exact absurd h2 (k2 n h1)
  · rcases h' with ⟨rfl, k1, k2⟩ | ⟨rfl, rfl, k2⟩
    · exact absurd k2 (h2 n' k1)
    · exact ⟨rfl, rfl⟩

theorem itoa_ne (m : Int) : Lib.itoa m ≠ [] := by
  unfold Lib.itoa
  split
  · simp
  · obtain ⟨c, r, e, _⟩ := dec_head m.toNat
    rw [e]; simp

theorem textOf_ok {n : Int} (h : okB n = true) : textOf n = Lib.itoa n := by unfold textOf; rw [if_pos h]
theorem textOf_no {n : Int} (h : okB n = false) : textOf n = [] := by unfold textOf; rw [h]; rfl

def relB (rel a b : Int) : Bool :=
  if rel = 1 then decide (a < b) else if rel = 2 then decide (a ≤ b) else if rel = 3 then a == b else if rel = 4 then a != b else false

/-- What is wrapped. -/
def wr (n : Int) : Int := (n + 32768) % 65536 - 32768
theorem tm_pos (n : Int) (h : 0 ≤ n) : n.tmod 65536 = n % 65536 := Int.tmod_eq_emod_of_nonneg h
theorem tm_neg (n : Int) (h : n < 0) : n.tmod 65536 = -((-n) % 65536) := by
  have e : n.tmod 65536 = -((-n).tmod 65536) := by rw [Int.neg_tmod]; omega
  rw [e, Int.tmod_eq_emod_of_nonneg (by omega)]

def doOk (op a b : Int) : Bool := okB a && okB b && (decide (op = 1) || decide (op = 2) || decide (op = 3) || (decide (op = 4) && decide (b ≠ 0)))
def doN (op a b : Int) : Int :=
  if doOk op a b then (if op = 1 then wr (a + b) else if op = 2 then wr (a - b) else if op = 3 then wr (a * b) else wr (a.tdiv b)) else 0
theorem mul_bd (a b : Int) (h1 : -32768 ≤ a) (h2 : a ≤ 32767) (h3 : -32768 ≤ b) (h4 : b ≤ 32767) : -1073741824 ≤ a * b ∧ a * b ≤ 1073741824 := by
  have hn : (a * b).natAbs ≤ 32768 * 32768 := by rw [Int.natAbs_mul]; exact Nat.mul_le_mul (by omega) (by omega)
  omega
end Go.Proofs.Ytiehokibfdaleaa
