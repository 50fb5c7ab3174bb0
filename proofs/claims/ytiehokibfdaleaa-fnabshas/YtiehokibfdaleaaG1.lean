/- Plain facts, no program in them: what is wrapped, how two stand, decimal numerals (a numeral of -32768..32767 is parsed as its number by either reader's rule, so a text is the numeral of at most one number). · Contracts of the leaves: RelHolds (program and model) answers the same Bool, NumOk answers whether a number lies in -32768..32767, NumWrap answers the number mod 65536 in that range. No condition beyond that the argument fits an int. · What the drawing reader's pick answers: on no bytes 0; at a place within the bytes that byte mod n; behind them a number of 0..n-1. Conditions: n from 1 to 1000000, a place below 1000000, at most 2000 bytes. · The drawing reader as an invariant of the world (Rd), and pick over it: some number of 0..n-1, the place one more, nothing else turned. · What the drawing functions answer over a reader (Rd): l20Num a number of -32768..32767, l20Raw some int, odd some bool, l20NumOr some int, l20Open a new reader at place 0. Conditions: a place far below 1000000; at most 1048576 bytes come in. · A region that draws its order, by an invariant: each operation is looked at once, whatever was done ahead of it; no order is counted out. No program in it. -/
import Derived.Lib.AtoiAll
import Derived.Lib.ItoaNum
import Derived.Lib.ItoaMem
import Derived.Test.YtiehokibfdaleaaRows
import Derived.WalkKit
import Derived.ProofKit
import Derived.OpenShut
import Derived.Below
import Derived.Laws.BitsAllLaws
import Derived.Deep.QuietTactic
import Derived.BigQuiet
import Derived.Orders
namespace Go.Proofs.Ytiehokibfdaleaa

def okB (n : Int) : Bool := decide (-32768 ≤ n) && decide (n ≤ 32767)
theorem ok_lo {n : Int} (h : okB n = true) : -32768 ≤ n := by simp [okB] at h; omega
theorem ok_hi {n : Int} (h : okB n = true) : n ≤ 32767 := by simp [okB] at h; omega

def textOf (n : Int) : List UInt8 := if okB n then Lib.itoa n else []

def dgt (k : Nat) : UInt8 := UInt8.ofNat (48 + k)
theorem dgt_nat (k : Nat) (h : 48 + k < 256) : (dgt k).toNat = 48 + k := by unfold dgt; rw [UInt8.toNat_ofNat']; omega
theorem dec_small (k : Nat) (h : k < 10) : Lib.decDigits k = [dgt k] := by rw [Lib.decDigits, dif_pos h]; rfl
theorem dec_step (k : Nat) (h : ¬ k < 10) : Lib.decDigits k = Lib.decDigits (k / 10) ++ [dgt (k % 10)] := by rw [Lib.decDigits, dif_neg h]; rfl

/-- What digits say, read from the left; none if a byte is no digit. -/
def val (acc : Nat) : List UInt8 → Option Nat
  | [] => some acc
  | c :: r => if 48 ≤ c.toNat ∧ c.toNat ≤ 57 then val (acc * 10 + (c.toNat - 48)) r else none

theorem val_snoc (l : List UInt8) (c : UInt8) : ∀ acc v, val acc l = some v → 48 ≤ c.toNat → c.toNat ≤ 57 → val acc (l ++ [c]) = some (v * 10 + (c.toNat - 48)) := by
  induction l with
  | nil =>
    intro acc v h h1 h2
    simp only [val, Option.some.injEq] at h
    subst h
    simp [val, h1, h2]
  | cons x r ih =>
    intro acc v h h1 h2
    simp only [val] at h
    split at h
    · rename_i hx
      simp only [List.cons_append, val, hx, and_self, if_true]
      exact ih _ _ h h1 h2
    · cases h

theorem val_dec (u : Nat) : val 0 (Lib.decDigits u) = some u := by
  induction u using Nat.strongRecOn with
  | _ u ih =>
    by_cases h : u < 10
    · rw [dec_small u h]
      have e := dgt_nat u (by omega)
      simp only [val, e]
      rw [if_pos (by omega)]
      simp
    · rw [dec_step u h]
      have e := dgt_nat (u % 10) (by omega)
      rw [val_snoc _ _ 0 (u / 10) (ih (u / 10) (by omega)) (by omega) (by omega), e]
      congr 1
      omega

/-- The library's rule, where nothing overflows. -/
theorem parse_val (l : List UInt8) : ∀ acc v, val acc l = some v → acc * 10 ^ l.length + 10 ^ l.length ≤ 1000000000000 → Lib.parseUint10 acc l = .ok v := by
  induction l with
  | nil =>
    intro acc v h _
    simp only [val, Option.some.injEq] at h
    subst h
    rfl
  | cons c r ih =>
    intro acc v h hb
    simp only [val] at h
    split at h
    · rename_i hc
      simp only [List.length_cons, Nat.pow_succ] at hb
      have hp : 1 ≤ 10 ^ r.length := Nat.one_le_pow _ _ (by omega)
      have h1 : acc * 10 ≤ acc * (10 ^ r.length * 10) := Nat.mul_le_mul_left _ (by omega)
      have hd : c.toNat - 48 ≤ 9 := by omega
      have h2 : (acc * 10 + (c.toNat - 48)) * 10 ^ r.length + 10 ^ r.length ≤ acc * (10 ^ r.length * 10) + 10 ^ r.length * 10 := by
        rw [Nat.add_mul, Nat.mul_assoc, Nat.mul_comm 10 (10 ^ r.length)]
        have := Nat.mul_le_mul_right (10 ^ r.length) hd
        omega
      simp only [Lib.parseUint10]
      rw [if_pos hc, if_neg (by omega), if_neg (by omega)]
      exact ih _ _ h (by omega)
    · cases h

theorem dec_length (u : Nat) (h : u < 1000000) : 1 ≤ (Lib.decDigits u).length ∧ (Lib.decDigits u).length ≤ 6 := by
  by_cases h1 : u < 10
  · rw [dec_small u h1]; simp
  · rw [dec_step u h1]
    by_cases h2 : u / 10 < 10
    · rw [dec_small _ h2]; simp
    · rw [dec_step _ h2]
      by_cases h3 : u / 10 / 10 < 10
      · rw [dec_small _ h3]; simp
      · rw [dec_step _ h3]
        by_cases h4 : u / 10 / 10 / 10 < 10
        · rw [dec_small _ h4]; simp
        · rw [dec_step _ h4]
          by_cases h5 : u / 10 / 10 / 10 / 10 < 10
          · rw [dec_small _ h5]; simp
          · rw [dec_step _ h5, dec_small _ (by omega)]; simp

theorem dec_head (u : Nat) : ∃ c r, Lib.decDigits u = c :: r ∧ 48 ≤ c.toNat ∧ c.toNat ≤ 57 := by
  induction u using Nat.strongRecOn with
  | _ u ih =>
    by_cases h : u < 10
    · exact ⟨dgt u, [], dec_small u h, by have := dgt_nat u (by omega); omega, by have := dgt_nat u (by omega); omega⟩
    · obtain ⟨c, r, e, h1, h2⟩ := ih (u / 10) (by omega)
      exact ⟨c, r ++ [dgt (u % 10)], by rw [dec_step u h, e]; rfl, h1, h2⟩

theorem parse_dec (u : Nat) (h : u < 1000000) : Lib.parseMag (Lib.decDigits u) = .ok u := by
  obtain ⟨l1, l2⟩ := dec_length u h
  unfold Lib.parseMag
  rw [if_neg (by intro e; rw [e] at l1; simp at l1)]
  refine parse_val _ 0 u (val_dec u) ?_
  have := Nat.pow_le_pow_right (n := 10) (by omega) l2
  omega

/-- The library reads a number's numeral as the number. -/
theorem atoi_itoa (m : Int) (h : okB m = true) : Lib.atoiAll (Lib.itoa m) = .ok m := by
  have h1 := ok_lo h
  have h2 := ok_hi h
  by_cases hn : m < 0
  · obtain ⟨u, rfl⟩ : ∃ u : Nat, m = -(u : Int) := ⟨m.natAbs, by omega⟩
    rw [Lib.itoa_neg u (by omega)]
    have e : (45 : UInt8).toNat = 45 := rfl
    simp only [Lib.atoiAll, e]
    rw [if_pos (Or.inr trivial), parse_dec u (by omega)]
    simp
    omega
  · obtain ⟨u, rfl⟩ := Int.eq_ofNat_of_zero_le (by omega : 0 ≤ m)
    rw [Lib.itoa_nonneg u]
    obtain ⟨c, r, e, hc1, hc2⟩ := dec_head u
    have hp := parse_dec u (by omega)
    rw [e] at hp ⊢
    simp only [Lib.atoiAll]
    rw [if_neg (by omega), hp]
    have hne : ¬ c.toNat = 45 := by omega
    simp [hne]
    omega

/-- What NumRead tells of a text: its number, or that it is no number's text. -/
def IsRead (l : List UInt8) (n : Int) (b : Bool) : Prop :=
  (b = true ∧ okB n = true ∧ Lib.itoa n = l) ∨ (b = false ∧ n = 0 ∧ ∀ m, okB m = true → Lib.itoa m ≠ l)

theorem itoa_inj {m n : Int} (hm : okB m = true) (hn : okB n = true) (h : Lib.itoa m = Lib.itoa n) : m = n := by
  have a := atoi_itoa m hm
  rw [h, atoi_itoa n hn] at a
  exact (Lib.NumEnd.ok.inj a).symm

theorem isRead_one {l : List UInt8} {n n' : Int} {b b' : Bool} (h : IsRead l n b) (h' : IsRead l n' b') : n = n' ∧ b = b' := by
  rcases h with ⟨rfl, h1, h2⟩ | ⟨rfl, rfl, h2⟩
  · rcases h' with ⟨rfl, k1, k2⟩ | ⟨rfl, rfl, k2⟩
    · exact ⟨itoa_inj h1 k1 (h2.trans k2.symm), rfl⟩
    · exact absurd h2 (k2 n h1)
  · rcases h' with ⟨rfl, k1, k2⟩ | ⟨rfl, rfl, k2⟩
    · exact absurd k2 (h2 n' k1)
    · exact ⟨rfl, rfl⟩

theorem itoa_ne (m : Int) : Lib.itoa m ≠ [] := by
  unfold Lib.itoa
  split
  · simp
  · obtain ⟨c, r, e, _⟩ := dec_head m.toNat
    rw [e]; simp

theorem textOf_ok {n : Int} (h : okB n = true) : textOf n = Lib.itoa n := by unfold textOf; rw [if_pos h]
theorem textOf_no {n : Int} (h : okB n = false) : textOf n = [] := by unfold textOf; rw [h]; rfl

def relB (rel a b : Int) : Bool :=
  if rel = 1 then decide (a < b) else if rel = 2 then decide (a ≤ b) else if rel = 3 then a == b else if rel = 4 then a != b else false

/-- What is wrapped. -/
def wr (n : Int) : Int := (n + 32768) % 65536 - 32768
theorem tm_pos (n : Int) (h : 0 ≤ n) : n.tmod 65536 = n % 65536 := Int.tmod_eq_emod_of_nonneg h
theorem tm_neg (n : Int) (h : n < 0) : n.tmod 65536 = -((-n) % 65536) := by
  have e : n.tmod 65536 = -((-n).tmod 65536) := by rw [Int.neg_tmod]; omega
  rw [e, Int.tmod_eq_emod_of_nonneg (by omega)]

def doOk (op a b : Int) : Bool := okB a && okB b && (decide (op = 1) || decide (op = 2) || decide (op = 3) || (decide (op = 4) && decide (b ≠ 0)))
def doN (op a b : Int) : Int :=
  if doOk op a b then (if op = 1 then wr (a + b) else if op = 2 then wr (a - b) else if op = 3 then wr (a * b) else wr (a.tdiv b)) else 0
theorem mul_bd (a b : Int) (h1 : -32768 ≤ a) (h2 : a ≤ 32767) (h3 : -32768 ≤ b) (h4 : b ≤ 32767) : -1073741824 ≤ a * b ∧ a * b ≤ 1073741824 := by
  have hn : (a * b).natAbs ≤ 32768 * 32768 := by rw [Int.natAbs_mul]; exact Nat.mul_le_mul (by omega) (by omega)
  omega
end Go.Proofs.Ytiehokibfdaleaa
namespace Go.Proofs.Ytiehokibfdaleaa
open Go.ChangeShapes Go.WideShapes Go.ChangeAt Go.RowKit

theorem ret_bool {a b : Bool} (h : a = b) : Ending.returned (.bool a) = .returned (.bool b) := by rw [h]
theorem ret2 {k : IntKind} {a b : Int} {c d : Bool} (h : a = b) (h' : c = d) : Ending.returned (.tuple #[.int k a, .bool c]) = .returned (.tuple #[.int k b, .bool d]) := by rw [h, h']
theorem ret_str {a b : ByteArray} (h : a = b) : Ending.returned (.string a) = .returned (.string b) := by rw [h]
theorem below_dn {B : Nat} {a w : World} (h : Below B a w) (n : Nat) : Below B a (w.drewN n) := h.trans ⟨rfl, rfl, rfl, Nat.le_refl _, fun _ _ => rfl⟩
theorem ret_int {k : IntKind} {a b : Int} (h : a = b) : Ending.returned (.int k a) = .returned (.int k b) := by rw [h]

theorem okS (n : Int) (w : World) :
    Calls Try.prog 47 #[.int .i64 n] w fun e w' => e = .returned (.bool (okB n)) ∧ w' = w := by
  by_cases h1 : (-32768 : Int) ≤ n
  · by_cases h2 : n ≤ 32767
    · go_enter Try.func47, Try.ntmps47
      go_wp2
      all_goals go_ret
      all_goals exact ⟨ret_bool (by simp [okB, h1, h2]), rfl⟩
    · go_enter Try.func47, Try.ntmps47
      go_wp2
      all_goals go_ret
      all_goals exact ⟨ret_bool (by simp [okB, h1, h2]), rfl⟩
  · go_enter Try.func47, Try.ntmps47
    go_wp2
    all_goals go_ret
    all_goals exact ⟨ret_bool (by simp [okB]; omega), rfl⟩

theorem okI (n : Int) (w : World) :
    Calls Try.prog 29 #[.int .i64 n] w fun e w' => e = .returned (.bool (okB n)) ∧ w' = w := by
  by_cases h1 : (-32768 : Int) ≤ n
  · by_cases h2 : n ≤ 32767
    · go_enter Try.func29, Try.ntmps29
      go_wp2
      all_goals go_ret
      all_goals exact ⟨ret_bool (by simp [okB, h1, h2]), rfl⟩
    · go_enter Try.func29, Try.ntmps29
      go_wp2
      all_goals go_ret
      all_goals exact ⟨ret_bool (by simp [okB, h1, h2]), rfl⟩
  · go_enter Try.func29, Try.ntmps29
    go_wp2
    all_goals go_ret
    all_goals exact ⟨ret_bool (by simp [okB]; omega), rfl⟩


theorem wr_wrap (n : Int) : IntKind.wrap .i16 n = wr n := by
  unfold wr IntKind.wrap
  simp [IntKind.bits, IntKind.signed]
  omega
theorem w64 (n : Int) (h1 : -9223372036854775808 ≤ n) (h2 : n ≤ 9223372036854775807) : wrap64 n = n := by
  unfold wrap64
  omega
end Go.Proofs.Ytiehokibfdaleaa
namespace Go.Proofs.Ytiehokibfdaleaa
open Go.ChangeShapes Go.WideShapes Go.ChangeAt Go.RowKit

theorem xor_nat (a b : Nat) (ha : a < 4611686018427387904) (hb : b < 4611686018427387904) : bits .xor .i64 (a : Int) (b : Int) = ((a ^^^ b : Nat) : Int) := by
  have hx : a ^^^ b < 2 ^ 62 := Nat.xor_lt_two_pow (by omega) (by omega)
  have h1 : (BitVec.ofInt 64 (a : Int)).toNat = a := by
    rw [BitVec.ofInt_natCast, BitVec.toNat_ofNat]; exact Nat.mod_eq_of_lt (by omega)
  have h2 : (BitVec.ofInt 64 (b : Int)).toNat = b := by
    rw [BitVec.ofInt_natCast, BitVec.toNat_ofNat]; exact Nat.mod_eq_of_lt (by omega)
  show IntKind.i64.wrap ((BitVec.ofInt 64 (a : Int) ^^^ BitVec.ofInt 64 (b : Int)).toNat : Int) = _
  rw [BitVec.toNat_xor, h1, h2]
  generalize a ^^^ b = t at hx
  simp [IntKind.wrap, IntKind.bits, IntKind.signed]
  omega

theorem mix_ok (y n : Int) (h1 : 0 ≤ y) (h2 : y < 1000000000000) (hn : 1 ≤ n) :
    0 ≤ (bits .xor .i64 y (wrap64 (y.tdiv 64))).tmod n ∧ (bits .xor .i64 y (wrap64 (y.tdiv 64))).tmod n < n := by
  obtain ⟨a, rfl⟩ := Int.eq_ofNat_of_zero_le h1
  have e : wrap64 ((a : Int).tdiv 64) = ((a / 64 : Nat) : Int) := by
    rw [Int.tdiv_eq_ediv_of_nonneg h1, w64 _ (by omega) (by omega)]; omega
  rw [e, xor_nat a (a / 64) (by omega) (by omega)]
  rw [Int.tmod_eq_emod_of_nonneg (by omega)]
  exact ⟨Int.emod_nonneg _ (by omega), Int.emod_lt_of_pos _ (by omega)⟩

theorem mix_bd (p m : Nat) (u v : Int) (hp : p < 1000000) (hm : 0 < m) (hu1 : 0 ≤ u) (hu2 : u ≤ 255) (hv1 : 0 ≤ v) (hv2 : v ≤ 255) :
    0 ≤ wrap64 (u * 131 + v * 1117 + (p : Int) * 29 + wrap64 (wrap64 ((p : Int) / (m : Int)) * 53)) ∧ wrap64 (u * 131 + v * 1117 + (p : Int) * 29 + wrap64 (wrap64 ((p : Int) / (m : Int)) * 53)) < 1000000000000 := by
  have q1 : 0 ≤ (p : Int) / (m : Int) := Int.ediv_nonneg (by omega) (by omega)
  have q2 : (p : Int) / (m : Int) ≤ p := Int.ediv_le_self _ (by omega)
  generalize (p : Int) / (m : Int) = q at q1 q2
  rw [w64 q (by omega) (by omega), w64 (q * 53) (by omega) (by omega), w64 _ (by omega) (by omega)]
  omega
set_option maxHeartbeats 400000 in
theorem pick_empty (R : Nat) (a : Option Addr) (c p : Nat) (n : Int) (w : World) (hn : 1 ≤ n) (hp : p < 1000000)
    (c0 : w.cell? ⟨R, 0, none⟩ = some (.slice a 0 c)) (c1 : w.cell? ⟨R, 1, none⟩ = some (.int .i64 p)) (fz : w.frozen? ⟨R, 1, none⟩ = false) :
    Calls Try.prog 36 #[.pointer (some ⟨R, 0, none⟩), .int .i64 n] w fun e w' => e = .returned (.int .i64 0) ∧ w' = w.setCell ⟨R, 1, none⟩ (.int .i64 (p + 1)) := by
  go_enter Try.func36, Try.ntmps36
  go_wp2
  go_ret
  exact ⟨rfl, rfl⟩

set_option maxHeartbeats 400000 in
theorem pick_in (R b off : Nat) (m c p : Nat) (n v : Int) (w : World) (hn : 1 ≤ n) (hp : p < m) (hm : m ≤ 2000)
    (c0 : w.cell? ⟨R, 0, none⟩ = some (.slice (some ⟨b, off, none⟩) m c)) (c1 : w.cell? ⟨R, 1, none⟩ = some (.int .i64 p)) (fz : w.frozen? ⟨R, 1, none⟩ = false)
    (hne : b ≠ R) (hc : w.cell? ⟨b, off + p, none⟩ = some (.int .u8 v)) (hv1 : 0 ≤ v) (hv2 : v ≤ 255) :
    Calls Try.prog 36 #[.pointer (some ⟨R, 0, none⟩), .int .i64 n] w fun e w' => e = .returned (.int .i64 (v % n)) ∧ w' = w.setCell ⟨R, 1, none⟩ (.int .i64 (p + 1)) := by
  have hm0 : ((m : Int) == 0) = false := by simp; omega
  have hpm : (p : Int) < (m : Int) := by omega
  go_enter Try.func36, Try.ntmps36
  go_wp2
  go_ret
  exact ⟨rfl, rfl⟩

set_option maxHeartbeats 1000000 in
theorem pick_mix (R b off : Nat) (m c p : Nat) (n : Int) (z : Nat → Int) (w : World) (hn : 1 ≤ n) (hn2 : n ≤ 1000000) (hp : m ≤ p) (hp2 : p < 1000000) (hm0 : 0 < m) (hm : m ≤ 2000)
    (c0 : w.cell? ⟨R, 0, none⟩ = some (.slice (some ⟨b, off, none⟩) m c)) (c1 : w.cell? ⟨R, 1, none⟩ = some (.int .i64 p)) (fz : w.frozen? ⟨R, 1, none⟩ = false)
    (hne : b ≠ R) (hc : ∀ i, i < m → w.cell? ⟨b, off + i, none⟩ = some (.int .u8 (z i))) (hv : ∀ i, i < m → 0 ≤ z i ∧ z i ≤ 255) :
    Calls Try.prog 36 #[.pointer (some ⟨R, 0, none⟩), .int .i64 n] w fun e w' => ∃ x q, 0 ≤ x ∧ x < n ∧ e = .returned (.int .i64 x) ∧ w' = (w.setCell ⟨R, 1, none⟩ (.int .i64 (p + 1))).drewN q := by
  have hm1 : ((m : Int) == 0) = false := by simp; omega
  have hpm : ¬ (p : Int) < (m : Int) := by omega
  have i1 : p % m < m := Nat.mod_lt _ hm0
  have i2 : (p * 7 + 3) % m < m := Nat.mod_lt _ hm0
  have d1 := hc _ i1
  have d2 := hc _ i2
  obtain ⟨v1a, v1b⟩ := hv _ i1
  obtain ⟨v2a, v2b⟩ := hv _ i2
  clear hc hv
  have hmi : 1 ≤ (m : Int) := by omega
  have j1 : (p : Int) % (m : Int) < (m : Int) := Int.emod_lt_of_pos _ (by omega)
  have j2 : ((p : Int) * 7 + 3) % (m : Int) < (m : Int) := Int.emod_lt_of_pos _ (by omega)
  have j1' : 0 ≤ (p : Int) % (m : Int) := Int.emod_nonneg _ (by omega)
  have j2' : 0 ≤ ((p : Int) * 7 + 3) % (m : Int) := Int.emod_nonneg _ (by omega)
  go_enter Try.func36, Try.ntmps36
  go_wp2
  go_quiet (fail)
  go_wp2
  go_ret
  obtain ⟨y1, y2⟩ := mix_bd p m _ _ hp2 hm0 v1a v1b v2a v2b
  obtain ⟨x1, x2⟩ := mix_ok _ n y1 y2 hn
  exact ⟨_, nq, x1, x2, rfl, rfl⟩

end Go.Proofs.Ytiehokibfdaleaa
namespace Go.Proofs.Ytiehokibfdaleaa
open Go.ChangeShapes Go.WideShapes Go.ChangeAt Go.RowKit


/-- A reader of bytes at block R: the slice, the place p, the bytes z. -/
structure Rd (w : World) (R : Nat) (a : Option Addr) (m c : Nat) (z : Nat → Int) (p : Nat) : Prop where
  size : R < w.heap.size
  c0 : w.cell? ⟨R, 0, none⟩ = some (.slice a m c)
  c1 : w.cell? ⟨R, 1, none⟩ = some (.int .i64 p)
  fz : w.frozen? ⟨R, 1, none⟩ = false
  len : m ≤ 2000
  byte : ∀ i, 0 ≤ z i ∧ z i ≤ 255
  row : m = 0 ∨ ∃ b off, a = some ⟨b, off, none⟩ ∧ b < R ∧ ∀ i, i < m → w.cell? ⟨b, off + i, none⟩ = some (.int .u8 (z i))

theorem Rd.kept {w w' : World} {R : Nat} {a : Option Addr} {m c : Nat} {z : Nat → Int} {p : Nat} {row : Option Nat} (h : Rd w R a m c z p) (g : w.grownBy w' row) (hr : ∀ k, row = some k → R < k) : Rd w' R a m c z p := by
  have hne : ∀ k, k ≤ R → some k ≠ row := fun k hk e => by have := hr k e.symm; omega
  refine ⟨Nat.lt_of_lt_of_le h.size g.size, g.cell h.c0 (hne R (Nat.le_refl _)), g.cell h.c1 (hne R (Nat.le_refl _)), ?_, h.len, h.byte, ?_⟩
  · exact (World.frozen?_of_block (g.block R h.size (hne R (Nat.le_refl _)))).trans h.fz
  · rcases h.row with h0 | ⟨b, off, e, hb, hc⟩
    · exact .inl h0
    · exact .inr ⟨b, off, e, hb, fun i hi => g.cell (hc i hi) (hne b (by omega))⟩

theorem grown_set (w : World) (R i : Nat) (v : Value) (q : Nat) : w.grownBy ((w.setCell ⟨R, i, none⟩ v).drewN q) (some R) := by
  have e : w.grownBy (w.setCell ⟨R, i, none⟩ v) (some R) := ⟨rfl, rfl, rfl, by simp [World.setCell], fun k _ hk => Below.heap_setCell w _ v k (fun e => hk (by rw [e]))⟩
  have d := below_dn (B := (w.setCell ⟨R, i, none⟩ v).heap.size) (Below.refl _ (w.setCell ⟨R, i, none⟩ v)) q
  exact ⟨d.os.trans e.os, d.tape.trans e.tape, d.output.trans e.output, Nat.le_trans e.size d.size, fun k hk hne => (d.block k (Nat.lt_of_lt_of_le hk e.size)).trans (e.block k hk hne)⟩

theorem grown_trans {a b c : World} {row : Option Nat} (h : a.grownBy b row) (k : b.grownBy c row) : a.grownBy c row :=
  ⟨k.os.trans h.os, k.tape.trans h.tape, k.output.trans h.output, Nat.le_trans h.size k.size, fun i hi hne => (k.block i (Nat.lt_of_lt_of_le hi h.size) hne).trans (h.block i hi hne)⟩

theorem Rd.step {w : World} {R : Nat} {a : Option Addr} {m c : Nat} {z : Nat → Int} {p : Nat} (h : Rd w R a m c z p) (q : Nat) : Rd ((w.setCell ⟨R, 1, none⟩ (.int .i64 (p + 1))).drewN q) R a m c z (p + 1) := by
  have g := grown_set w R 1 (.int .i64 (p + 1)) q
  have d := below_dn (B := (w.setCell ⟨R, 1, none⟩ (.int .i64 (p + 1))).heap.size) (Below.refl _ (w.setCell ⟨R, 1, none⟩ (.int .i64 ((p : Int) + 1)))) q
  have hs : R < (w.setCell ⟨R, 1, none⟩ (.int .i64 ((p : Int) + 1))).heap.size := by simpa [World.setCell] using h.size
  have hne : ∀ b, b < R → some b ≠ some R := fun b hb e => by cases e; omega
  refine ⟨Nat.lt_of_lt_of_le h.size g.size, ?_, ?_, ?_, h.len, h.byte, ?_⟩
  · rw [d.cell hs, World.cell?_setCell_other _ _ _ _ (by simp)]; exact h.c0
  · rw [d.cell hs]; exact World.cell?_setCell_same _ _ _ h.c1
  · rw [d.frozen hs]; simp [h.fz]
  · rcases h.row with h0 | ⟨b, off, e, hb, hc⟩
    · exact .inl h0
    · exact .inr ⟨b, off, e, hb, fun i hi => g.cell (hc i hi) (hne b hb)⟩

theorem pick (R : Nat) (a : Option Addr) (m c : Nat) (z : Nat → Int) (p : Nat) (n : Int) (w : World) (h : Rd w R a m c z p) (hn : 1 ≤ n) (hn2 : n ≤ 1000000) (hp : p < 1000000) :
    Calls Try.prog 36 #[.pointer (some ⟨R, 0, none⟩), .int .i64 n] w fun e w' => ∃ x : Int, 0 ≤ x ∧ x < n ∧ e = .returned (.int .i64 x) ∧ Rd w' R a m c z (p + 1) ∧ w.grownBy w' (some R) := by
  have hst := h.step
  have hgr := grown_set w R 1 (.int .i64 (p + 1))
  rcases h.row with h0 | ⟨b, off, rfl, hb, hc⟩
  · subst h0
    refine (pick_empty R a c p n w hn hp h.c0 h.c1 h.fz).mono ?_
    rintro e w' ⟨rfl, rfl⟩
    exact ⟨0, by omega, by omega, rfl, hst 0, hgr 0⟩
  · by_cases hm : m = 0
    · subst hm
      refine (pick_empty R _ c p n w hn hp h.c0 h.c1 h.fz).mono ?_
      rintro e w' ⟨rfl, rfl⟩
      exact ⟨0, by omega, by omega, rfl, hst 0, hgr 0⟩
    by_cases hpm : p < m
    · obtain ⟨z1, z2⟩ := h.byte p
      refine (pick_in R b off m c p n (z p) w hn hpm h.len h.c0 h.c1 h.fz (by omega) (hc p hpm) z1 z2).mono ?_
      rintro e w' ⟨rfl, rfl⟩
      exact ⟨z p % n, Int.emod_nonneg _ (by omega), Int.emod_lt_of_pos _ (by omega), rfl, hst 0, hgr 0⟩
    · refine (pick_mix R b off m c p n z w hn hn2 (by omega) hp (by omega) h.len h.c0 h.c1 h.fz (by omega) hc (fun i _ => h.byte i)).mono ?_
      rintro e w' ⟨x, q, h1, h2, rfl, rfl⟩
      exact ⟨x, h1, h2, rfl, hst q, hgr q⟩
end Go.Proofs.Ytiehokibfdaleaa
namespace Go.Proofs.Ytiehokibfdaleaa
open Go.ChangeShapes Go.WideShapes Go.ChangeAt Go.RowKit

def inTab (lo hi : Int) : Value → Bool
  | .int .i64 v => decide (lo ≤ v) && decide (v ≤ hi)
  | _ => false

theorem inTab_int {lo hi : Int} {v : Value} (h : inTab lo hi v = true) : ∃ n : Int, v = .int .i64 n ∧ lo ≤ n ∧ n ≤ hi := by
  unfold inTab at h
  split at h
  · rename_i n
    simp at h
    exact ⟨n, rfl, h.1, h.2⟩
  · cases h

theorem cell_new (w : World) (cs : Array Value) (t : TypeId) (k : Nat) (h : k < cs.size) : (w.alloc (.cells cs t)).cell? ⟨w.heap.size, k, none⟩ = some cs[k] := by
  unfold World.cell?
  rw [heap_alloc_new]
  simp [h]

theorem tab_cell {w1 w2 : World} {cs : Array Value} {t : TypeId} {R : Nat} {lo hi : Int} (hall : ∀ k (h : k < cs.size), inTab lo hi cs[k] = true)
    (g : (w1.alloc (.cells cs t)).grownBy w2 (some R)) (hR : R < w1.heap.size) (k : Nat) (hk : k < cs.size) :
    ∃ n : Int, w2.cell? ⟨w1.heap.size, k, none⟩ = some (.int .i64 n) ∧ lo ≤ n ∧ n ≤ hi := by
  obtain ⟨n, e, h1, h2⟩ := inTab_int (hall k hk)
  have hc := g.cell (cell_new w1 cs t k hk) (by simp; omega)
  rw [e] at hc
  exact ⟨n, hc, h1, h2⟩

theorem all_of {cs : Array Value} {lo hi : Int} (h : cs.toList.all (inTab lo hi) = true) : ∀ k (h : k < cs.size), inTab lo hi cs[k] = true := by
  intro k hk
  rw [List.all_eq_true] at h
  exact h _ (by simp)

set_option maxHeartbeats 1000000 in
theorem numS (R : Nat) (a : Option Addr) (m c : Nat) (z : Nat → Int) (p : Nat) (w : World) (h : Rd w R a m c z p) (hp : p < 900000) :
    Calls Try.prog 44 #[.pointer (some ⟨R, 0, none⟩)] w fun e w' => ∃ (x : Int) (p' : Nat), -32768 ≤ x ∧ x ≤ 32767 ∧ e = .returned (.int .i64 x) ∧ p' ≤ p + 3 ∧ Rd w' R a m c z p' ∧ w.grownBy w' (some R) := by
  go_enter Try.func44, Try.ntmps44
  go_wp2_with fail
  refine (pick R a m c z p 4 _ h (by omega) (by omega) (by omega)).mono ?_
  rintro e w1 ⟨x, hx1, hx2, rfl, h1, g1⟩
  obtain rfl | rfl | rfl | rfl : x = 0 ∨ x = 1 ∨ x = 2 ∨ x = 3 := by omega
  · go_wp2_with fail
    refine (pick R a m c z (p + 1) 9 _ (h1.kept (World.grownBy_alloc _ _ none) (by simp)) (by omega) (by omega) (by omega)).mono ?_
    rintro e w2 ⟨y, hy1, hy2, rfl, h2, g2⟩
    obtain ⟨k, rfl⟩ := Int.eq_ofNat_of_zero_le hy1
    obtain ⟨v, hv, hv1, hv2⟩ := tab_cell (lo := -32768) (hi := 32767) (all_of rfl) g2 h1.size k (by simp; omega)
    go_wp2_with fail
    go_ret
    exact ⟨v, p + 2, hv1, hv2, rfl, by omega, h2, grown_trans g1 (grown_trans (World.grownBy_alloc _ _ _) g2)⟩
  · go_wp2_with fail
    refine (pick R a m c z (p + 1) 12 _ h1 (by omega) (by omega) (by omega)).mono ?_
    rintro e w2 ⟨y, hy1, hy2, rfl, h2, g2⟩
    go_wp2_with fail
    go_ret
    exact ⟨y - 4, p + 2, by omega, by omega, rfl, by omega, h2, grown_trans g1 g2⟩
  · go_wp2_with fail
    refine (pick R a m c z (p + 1) 9 _ (h1.kept (World.grownBy_alloc _ _ none) (by simp)) (by omega) (by omega) (by omega)).mono ?_
    rintro e w2 ⟨y, hy1, hy2, rfl, h2, g2⟩
    obtain ⟨k, rfl⟩ := Int.eq_ofNat_of_zero_le hy1
    obtain ⟨v, hv, hv1, hv2⟩ := tab_cell (lo := -32768) (hi := 32767) (all_of rfl) g2 h1.size k (by simp; omega)
    go_wp2_with fail
    go_ret
    exact ⟨v, p + 2, hv1, hv2, rfl, by omega, h2, grown_trans g1 (grown_trans (World.grownBy_alloc _ _ _) g2)⟩
  · go_wp2_with fail
    refine (pick R a m c z (p + 1) 256 _ h1 (by omega) (by omega) (by omega)).mono ?_
    rintro e w2 ⟨y, hy1, hy2, rfl, h2, g2⟩
    go_wp2_with fail
    refine (pick R a m c z (p + 2) 256 _ h2 (by omega) (by omega) (by omega)).mono ?_
    rintro e w3 ⟨y', hz1, hz2, rfl, h3, g3⟩
    go_wp2_with fail
    go_ret
    exact ⟨y * 256 + y' - 32768, p + 3, by omega, by omega, rfl, by omega, h3, grown_trans g1 (grown_trans g2 g3)⟩

set_option maxHeartbeats 1000000 in
theorem oddS (R : Nat) (a : Option Addr) (m c : Nat) (z : Nat → Int) (p : Nat) (n : Int) (w : World) (h : Rd w R a m c z p) (hp : p < 900000) (hn : 1 ≤ n) (hn2 : n < 9000) :
    Calls Try.prog 35 #[.pointer (some ⟨R, 0, none⟩), .int .i64 n] w fun e w' => ∃ b : Bool, e = .returned (.bool b) ∧ Rd w' R a m c z (p + 1) ∧ w.grownBy w' (some R) := by
  go_enter Try.func35, Try.ntmps35
  go_wp2_with fail
  refine (pick R a m c z p n _ h (by omega) (by omega) (by omega)).mono ?_
  rintro e w1 ⟨x, hx1, hx2, rfl, h1, g1⟩
  go_wp2_with fail
  go_ret
  exact ⟨_, rfl, h1, g1⟩

set_option maxHeartbeats 1000000 in
theorem rawS (R : Nat) (a : Option Addr) (m c : Nat) (z : Nat → Int) (p : Nat) (w : World) (h : Rd w R a m c z p) (hp : p < 800000) :
    Calls Try.prog 37 #[.pointer (some ⟨R, 0, none⟩)] w fun e w' => ∃ (x : Int) (p' : Nat), -9223372036854775808 ≤ x ∧ x ≤ 9223372036854775807 ∧ e = .returned (.int .i64 x) ∧ p' ≤ p + 5 ∧ Rd w' R a m c z p' ∧ w.grownBy w' (some R) := by
  go_enter Try.func37, Try.ntmps37
  go_wp2_with fail
  refine (pick R a m c z p 4 _ h (by omega) (by omega) (by omega)).mono ?_
  rintro e w1 ⟨x, hx1, hx2, rfl, h1, g1⟩
  obtain rfl | rfl | h23 : x = 0 ∨ x = 1 ∨ 2 ≤ x := by omega
  · go_wp2_with fail
    refine (pick R a m c z (p + 1) 8 _ (h1.kept (World.grownBy_alloc _ _ none) (by simp)) (by omega) (by omega) (by omega)).mono ?_
    rintro e w2 ⟨y, hy1, hy2, rfl, h2, g2⟩
    obtain ⟨k, rfl⟩ := Int.eq_ofNat_of_zero_le hy1
    obtain ⟨v, hv, hv1, hv2⟩ := tab_cell (lo := -9223372036854775808) (hi := 9223372036854775807) (all_of rfl) g2 h1.size k (by simp; omega)
    go_wp2_with fail
    go_ret
    exact ⟨v, p + 2, hv1, hv2, rfl, by omega, h2, grown_trans g1 (grown_trans (World.grownBy_alloc _ _ _) g2)⟩
  · go_wp2_with fail
    refine (numS R a m c z (p + 1) _ h1 (by omega)).mono ?_
    rintro e w2 ⟨y, p2, hy1, hy2, rfl, hp2, h2, g2⟩
    go_wp2_with fail
    refine (pick R a m c z p2 4 _ (h2.kept (World.grownBy_alloc _ _ none) (by simp)) (by omega) (by omega) (by omega)).mono ?_
    rintro e w3 ⟨u, hu1, hu2, rfl, h3, g3⟩
    obtain ⟨k, rfl⟩ := Int.eq_ofNat_of_zero_le hu1
    obtain ⟨v, hv, hv1, hv2⟩ := tab_cell (lo := 1) (hi := 65536) (all_of rfl) g3 h2.size k (by simp; omega)
    have hb1 : -2147483648 ≤ y * v ∧ y * v ≤ 2147483648 := by
      have hn : (y * v).natAbs ≤ 32768 * 65536 := by rw [Int.natAbs_mul]; exact Nat.mul_le_mul (by omega) (by omega)
      omega
    obtain ⟨hb2, hb3⟩ := hb1
    go_wp2_with fail
    go_ret
    exact ⟨y * v, p2 + 1, by omega, by omega, rfl, by omega, h3, grown_trans g1 (grown_trans g2 (grown_trans (World.grownBy_alloc _ _ _) g3))⟩
  · have e0 : (x == 0) = false := by simp; omega
    have e1 : (x == 1) = false := by simp; omega
    go_wp2_with fail
    refine (numS R a m c z (p + 1) _ h1 (by omega)).mono ?_
    rintro e w2 ⟨y, p2, hy1, hy2, rfl, hp2, h2, g2⟩
    go_wp2_with fail
    go_ret
    exact ⟨y, p2, by omega, by omega, rfl, by omega, h2, grown_trans g1 g2⟩

/-- Bytes that came in: none, or a row of cells. -/
def Bytes (w : World) (a : Option Addr) (len cap : Nat) (z : Nat → Int) : Prop :=
  len = 0 ∨ ∃ b off, a = some ⟨b, off, none⟩ ∧ b < w.heap.size ∧ len ≤ cap ∧ ∀ i, i < len → w.cell? ⟨b, off + i, none⟩ = some (.int .u8 (z i))

theorem bytes_of {w : World} {x : Addr} {len cap : Nat} {zs : List Int} (hl : len ≤ cap) (hz : zs.length = cap)
    (hcell : ∀ i, i < zs.length → w.cell? (x.add i) = some (.int .u8 (zs.getD i 0))) (hwz : ∀ n ∈ zs, (Lit.int .u8 n).wf = true) :
    ∃ z : Nat → Int, (∀ i, 0 ≤ z i ∧ z i ≤ 255) ∧ Bytes w (some x) len cap z := by
  by_cases h0 : len = 0
  · exact ⟨fun _ => 0, fun _ => by simp, .inl h0⟩
  · obtain ⟨b, off, spot⟩ := x
    have hc := hcell 0 (by omega)
    have hspot : spot = none := by simpa [Addr.add] using World.cell?_spot hc
    subst hspot
    refine ⟨fun i => zs.getD i 0, fun i => ?_, .inr ⟨b, off, rfl, World.block_lt_of_cell? w _ hc, hl, fun i hi => ?_⟩⟩
    · show 0 ≤ zs.getD i 0 ∧ zs.getD i 0 ≤ 255
      by_cases hi : i < zs.length
      · have hw := hwz (zs.getD i 0) (by rw [List.getD_eq_getElem?_getD, List.getElem?_eq_getElem hi]; exact List.getElem_mem hi)
        simpa [Lit.wf, IntKind.min, IntKind.max, IntKind.signed, IntKind.bits] using hw
      · rw [List.getD_eq_getElem?_getD, List.getElem?_eq_none (by omega)]; decide
    · have hci := hcell i (by omega)
      by_cases h1 : i = 0
      · subst h1; simpa [Addr.add] using hci
      · simpa [Addr.add, h1] using hci

theorem Bytes.kept {w w' : World} {a : Option Addr} {len cap : Nat} {z : Nat → Int} (h : Bytes w a len cap z) (hb : Below w.heap.size w w') : Bytes w' a len cap z := by
  rcases h with h0 | ⟨b, off, e, hlt, hl, hc⟩
  · exact .inl h0
  · exact .inr ⟨b, off, e, Nat.lt_of_lt_of_le hlt hb.size, hl, fun i hi => (hb.cell (p := ⟨b, off + i, none⟩) hlt).trans (hc i hi)⟩

theorem below_at {w w1 w2 : World} {R : Nat} (b : Below w.heap.size w w1) (g : w1.grownBy w2 (some R)) (hR : w.heap.size ≤ R) : Below w.heap.size w w2 :=
  b.grown g b.size (fun k e => by cases e; exact hR)

theorem rd_new (w : World) (a : Option Addr) (len cap m c : Nat) (z : Nat → Int) (hz : ∀ i, 0 ≤ z i ∧ z i ≤ 255) (h : Bytes w a len cap z) (hm : m ≤ len) (hm2 : m ≤ 2000) :
    Rd (w.alloc (.cells #[.slice a m c, .int .i64 0] 75)) w.heap.size a m c z 0 := by
  refine ⟨by simp, ?_, ?_, ?_, hm2, hz, ?_⟩
  · exact cell_new w _ 75 0 (by simp)
  · exact cell_new w _ 75 1 (by simp)
  · rw [frozen?_alloc_cells]; simp [World.frozen?]
  · rcases h with h0 | ⟨b, off, e, hb, _, hc⟩
    · exact .inl (by omega)
    · refine .inr ⟨b, off, e, hb, fun i hi => ?_⟩
      rw [World.cell?_alloc_lt _ _ _ hb]
      exact hc i (by omega)

set_option maxHeartbeats 1000000 in
theorem openS (a : Option Addr) (len cap : Nat) (z : Nat → Int) (w : World) (hz : ∀ i, 0 ≤ z i ∧ z i ≤ 255) (hl : len ≤ 1048576) (h : Bytes w a len cap z) :
    Calls Try.prog 31 #[.slice a len cap] w fun e w' => ∃ m c, e = .returned (.pointer (some ⟨w.heap.size, 0, none⟩)) ∧ Rd w' w.heap.size a m c z 0 ∧ w.grownBy w' none := by
  by_cases h2 : len ≤ 2000
  · go_enter Try.func31, Try.ntmps31
    go_wp2_with fail
    go_ret
    exact ⟨len, cap, rfl, rd_new w a len cap len cap z hz h (Nat.le_refl _) h2, World.grownBy_alloc _ _ _⟩
  · have h' := h
    rcases h' with h0 | ⟨b, off, rfl, hb, hlc, hc⟩
    · omega
    have i1 : (2000 : Int) < (len : Int) := by omega
    have i2 : (2000 : Int) ≤ (cap : Int) := by omega
    go_enter Try.func31, Try.ntmps31
    go_wp2_with fail

    go_ret
    exact ⟨2000, cap, rfl, rd_new w _ len cap 2000 cap z hz h (by omega) (by omega), World.grownBy_alloc _ _ _⟩

end Go.Proofs.Ytiehokibfdaleaa
namespace Go.Proofs.Ytiehokibfdaleaa
open Go.RowKit

def upd {α : Type} (f : Nat → α) (i : Nat) (v : α) : Nat → α := fun j => if j = i then v else f j
theorem upd_same {α : Type} (f : Nat → α) (i : Nat) (v : α) : upd f i v i = v := if_pos rfl
theorem upd_other {α : Type} (f : Nat → α) {i j : Nat} (v : α) (h : j ≠ i) : upd f i v j = f j := if_neg h
/-- What has been done, of the list that the model keeps. -/
def lis (l : Array Bool) : Nat → Bool := fun j => l.getD j false
/-- The operations that stand ahead of operation i. -/
def deps (ops : Array Oper) (i : Nat) : List Nat := match ops[i]? with
  | some o => (o.after.toList.filter fun e => Region.binds .any e).map (·.on)
  | none => []
def depsB (ops : Array Oper) : Bool := (List.range ops.size).all fun i => (deps ops i).all fun j => decide (j < i)

theorem lis_set {l : Array Bool} {i : Nat} (h : i < l.size) : lis (l.setIfInBounds i true) = upd (lis l) i true := by
  funext j
  unfold lis upd
  by_cases hj : j = i
  · subst hj
    simp [h]
  · rw [if_neg hj, getD_set_ne false (Ne.symm hj)]
theorem left_set {l : List Bool} : ∀ {i : Nat}, l[i]? = some false → (l.set i true).countP (fun b => !b) + 1 = l.countP (fun b => !b) := by
  induction l with
  | nil => intro i h; simp at h
  | cons x l ih =>
    intro i h
    cases i with
    | zero =>
      simp at h
      subst h
      simp
    | succ i =>
      have := ih (i := i) (by simpa using h)
      cases x <;> simp <;> omega
theorem all_of_none {l : List Bool} (h : l.countP (fun b => !b) = 0) : ∀ j (hj : j < l.length), l[j] = true := by
  intro j hj
  have := List.countP_eq_zero.1 h l[j] (List.getElem_mem hj)
  simpa using this

theorem wpAny_inv {P : Program} {ops : Array Oper} {Q : Exit → Act → World → Prop} (I : (Nat → Bool) → Act → World → Prop) (hdep : depsB ops = true)
    (hop : ∀ i L a w, i < ops.size → I L a w → L i = false → (∀ j ∈ deps ops i, L j = true) → wpOp P ops Q i (fun a' w' => I (upd L i true) a' w') a w)
    (hend : ∀ L a w, I L a w → (∀ j, j < ops.size → L j = true) → Q .normal a w) :
    ∀ (fuel : Nat) (listed : Array Bool) (a : Act) (w : World), listed.size = ops.size → listed.toList.countP (fun b => !b) ≤ fuel → I (lis listed) a w → wpAny P .any ops Q fuel listed a w := by
  have hd : ∀ i, i < ops.size → ∀ j ∈ deps ops i, j < i := by
    intro i hi j hj
    unfold depsB at hdep
    rw [List.all_eq_true] at hdep
    have := hdep i (by simp [hi])
    rw [List.all_eq_true] at this
    simpa using this j hj
  have rd : ∀ (listed : Array Bool) i, i ∈ Region.ready .any ops listed → i < ops.size ∧ listed.getD i true = false ∧ ∀ j ∈ deps ops i, lis listed j = true := by
    intro listed i hi
    obtain ⟨h0, o, ho, hall⟩ := mem_ready.1 hi
    refine ⟨(Array.getElem?_eq_some_iff.1 ho).1, h0, fun j hj => ?_⟩
    unfold deps at hj
    rw [ho] at hj
    simp only [List.mem_map, List.mem_filter] at hj
    obtain ⟨e, ⟨he, hb⟩, rfl⟩ := hj
    exact hall e (by simpa using he) hb
  have fin : ∀ (listed : Array Bool), listed.size = ops.size → Region.ready .any ops listed = [] → ∀ j, j < ops.size → lis listed j = true := by
    intro listed hs hr j
    induction j using Nat.strongRecOn with
    | _ j ih =>
      intro hj
      cases hl : lis listed j with
      | true => rfl
      | false =>
        exfalso
        have : j ∈ Region.ready .any ops listed := by
          rw [mem_ready]
          refine ⟨?_, ops[j], by simp [hj], fun e he hb => ?_⟩
          · unfold lis at hl
            have hj' : j < listed.size := by omega
            simp [hj'] at hl ⊢
            exact hl
          · have hm : e.on ∈ deps ops j := by
              unfold deps
              rw [Array.getElem?_eq_getElem hj]
              simp only [List.mem_map, List.mem_filter]
              exact ⟨e, ⟨by simpa using he, hb⟩, rfl⟩
            have hlt := hd j hj _ hm
            exact ih e.on hlt (by omega)
        rw [hr] at this
        cases this
  intro fuel
  induction fuel with
  | zero =>
    intro listed a w hs hc hI
    have hall := all_of_none (Nat.le_zero.1 hc)
    have hr : Region.ready .any ops listed = [] := by
      apply List.eq_nil_iff_forall_not_mem.2
      intro i hi
      obtain ⟨h1, h2, _⟩ := rd listed i hi
      have hi' : i < listed.size := by omega
      have := hall i (by simpa using hi')
      simp [hi'] at h2
      simp at this
      rw [this] at h2
      cases h2
    exact ⟨hr, hend _ _ _ hI (fin listed hs hr)⟩
  | succ fuel ih =>
    intro listed a w hs hc hI
    refine ⟨fun hr => hend _ _ _ hI (fin listed hs hr), fun i hi => ?_⟩
    obtain ⟨h1, h2, h3⟩ := rd listed i hi
    have hi' : i < listed.size := by omega
    have hf : lis listed i = false := by
      unfold lis
      simp [hi'] at h2 ⊢
      exact h2
    refine wpOp_mono (fun a' w' h' => ih (listed.setIfInBounds i true) a' w' (by simpa using hs) ?_ (by rw [lis_set hi']; exact h')) (hop i (lis listed) a w h1 hI hf h3)
    have := left_set (l := listed.toList) (i := i) (by simp [hi'] at h2 ⊢; exact h2)
    simp only [Array.toList_setIfInBounds]
    omega

/-- One operation, as the walk takes it. -/
theorem wpOp_of_list {P : Program} {ops : Array Oper} {Q : Exit → Act → World → Prop} {i : Nat} {o : Oper} {K : Act → World → Prop} {a : Act} {w : World} (hi : ops[i]? = some o)
    (h : wpList P ops (Exit.then K Q) [o] a w) : wpOp P ops Q i K a w := by
  unfold wpOp
  rw [hi]
  unfold wpList at h
  simp only
  split
  · rename_i hw
    rw [if_pos hw] at h
    rcases h with h | ⟨h1, h2⟩
    · left
      unfold Oper.wp at h ⊢
      generalize (execOp a.eval o).run P w = r at h ⊢
      cases r with
      | ok n w' =>
        cases n <;> simp only [Oper.upon] at h ⊢ <;>
          first
            | exact h
            | exact Calls.mono h (fun e w'' he => by cases e <;> exact he)
      | halt x w' => cases x <;> simp only [Oper.upon] at h ⊢ <;> exact h
    · right
      exact ⟨h1, h2⟩
  · rename_i hw
    rw [if_neg hw] at h
    exact h

/-- THE RULE. fr: the frame by the values of the region's operations; φ: what is known of each value, once it is there; S: what is known of the world, by what is done; T: how each operation may turn the world, which leaves φ of the others standing. -/
theorem region_inv {P : Program} {ops : Array Oper} {Q : Exit → Act → World → Prop} {id : Nat} {a : Act} {w : World} (fr : (Nat → Value) → Act) (φ : Nat → Value → World → Prop) (S : (Nat → Bool) → World → Prop) (T : Nat → World → World → Prop)
    (hm : P.follows .mixedOrders = true) (hdep : depsB ops = true) (v0 : Nat → Value) (ha : a = fr v0) (hS : S (fun _ => false) w.drew)
    (hst : ∀ i j v w w', j ≠ i → φ j v w → T i w w' → φ j v w')
    (hop : ∀ i L vals w, i < ops.size → (∀ j, L j = true → φ j (vals j) w) → S L w → L i = false → (∀ j ∈ deps ops i, L j = true) →
      wpOp P ops Q i (fun a' w' => ∃ v, a' = fr (upd vals i v) ∧ φ i v w' ∧ T i w w' ∧ S (upd L i true) w') (fr vals) w)
    (hend : ∀ L vals w, (∀ j, j < ops.size → L j = true) → (∀ j, j < ops.size → φ j (vals j) w) → S L w → Q .normal (fr vals) w) :
    (Code.region id ops true).wp P Q a w := by
  subst ha
  refine wp_region_any hm (wpAny_inv (fun L a w => ∃ vals, a = fr vals ∧ (∀ j, L j = true → φ j (vals j) w) ∧ S L w) hdep ?_ ?_ _ _ _ _ (by simp) ?_ ?_)
  · rintro i L a w hi ⟨vals, rfl, hφ, hS'⟩ hL hd
    refine wpOp_mono ?_ (hop i L vals w hi hφ hS' hL hd)
    rintro a' w' ⟨v, rfl, hv, hT, hS2⟩
    refine ⟨upd vals i v, rfl, fun j hj => ?_, hS2⟩
    by_cases hji : j = i
    · subst hji
      rw [upd_same]; exact hv
    · rw [upd_other _ _ hji] at hj ⊢
      exact hst _ _ _ _ _ hji (hφ j hj) hT
  · rintro L a w ⟨vals, rfl, hφ, hS'⟩ hall
    exact hend L vals w hall (fun j hj => hφ j (hall j hj)) hS'
  · exact Nat.le_trans List.countP_le_length (by simp)
  · refine ⟨v0, rfl, fun j hj => ?_, ?_⟩
    · exfalso
      unfold lis at hj
      by_cases h : j < ops.size <;> simp [h] at hj
    · have e : lis (Array.replicate ops.size false) = fun _ => false := by
        funext j
        unfold lis
        by_cases h : j < ops.size <;> simp [h]
      rw [e]; exact hS
/-- The slots that a region writes, by its operations. -/
def dsts (ops : Array Oper) : List (Nat × Nat) := (List.range ops.size).filterMap fun k => ((ops[k]?).bind (·.dst)).map fun d => (k, d)
/-- The frame, by the values of the region's operations. -/
def frOf : List (Nat × Nat) → Act → (Nat → Value) → Act
  | [], a, _ => a
  | (k, d) :: r, a, vals => frOf r (a.put (some d) (vals k)) vals
theorem put_put (a : Act) (d : Nat) (v u : Value) : (a.put (some d) v).put (some d) u = a.put (some d) u := by
  simp [Act.put]
theorem frOf_out {ds : List (Nat × Nat)} {d : Nat} (v : Value) (h : ∀ e ∈ ds, e.2 ≠ d) : ∀ (a : Act) (vals : Nat → Value), frOf ds (a.put (some d) v) vals = (frOf ds a vals).put (some d) v := by
  induction ds with
  | nil => intro a vals; rfl
  | cons e ds ih =>
    intro a vals
    obtain ⟨k, d'⟩ := e
    have hne : d' ≠ d := h (k, d') (by simp)
    simp only [frOf]
    rw [Act.put_comm a v (vals k) (x := some d) (y := some d') (fun x hx => by cases hx; simpa using hne)]
    exact ih (fun e he => h e (by simp [he])) _ _
theorem frOf_same {ds : List (Nat × Nat)} {i : Nat} {v : Value} (h : ∀ e ∈ ds, e.1 ≠ i) : ∀ (a : Act) (vals : Nat → Value), frOf ds a (upd vals i v) = frOf ds a vals := by
  induction ds with
  | nil => intro a vals; rfl
  | cons e ds ih =>
    intro a vals
    obtain ⟨k, d⟩ := e
    simp only [frOf]
    rw [upd_other _ _ (h (k, d) (by simp)), ih (fun e he => h e (by simp [he]))]
theorem frOf_put {ds : List (Nat × Nat)} (hk : (ds.map (·.1)).Nodup) (hd : (ds.map (·.2)).Nodup) {i d : Nat} (h : (i, d) ∈ ds) (v : Value) : ∀ (a : Act) (vals : Nat → Value), (frOf ds a vals).put (some d) v = frOf ds a (upd vals i v) := by
  induction ds with
  | nil => cases h
  | cons e ds ih =>
    intro a vals
    obtain ⟨k, d'⟩ := e
    simp only [List.map_cons, List.nodup_cons] at hk hd
    simp only [frOf]
    rcases List.mem_cons.1 h with he | he
    · cases he
      have h1 : ∀ e ∈ ds, e.2 ≠ d := fun e he hh => hd.1 (by rw [← hh]; exact List.mem_map_of_mem he)
      have h2 : ∀ e ∈ ds, e.1 ≠ i := fun e he hh => hk.1 (by rw [← hh]; exact List.mem_map_of_mem he)
      rw [upd_same, frOf_same h2, frOf_out _ h1, frOf_out _ h1, put_put]
    · have h1 : k ≠ i := fun hh => hk.1 (by rw [hh]; exact List.mem_map_of_mem (f := (·.1)) he)
      rw [upd_other _ _ h1]
      exact ih hk.2 hd.2 he _ _
theorem put_self (a : Act) (d : Nat) : a.put (some d) (a.tmps.getD d undef) = a := by
  cases a with
  | mk t df =>
    simp only [Act.put]
    congr 1
    apply Array.ext_getElem?
    intro j
    by_cases hj : d = j
    · subst hj
      by_cases h : d < t.size
      · simp [h]
      · simp [h]
    · simp [Array.getElem?_setIfInBounds_ne hj]
theorem frOf_self (ds : List (Nat × Nat)) (hk : (ds.map (·.1)).Nodup) (a : Act) : ∃ v0, a = frOf ds a v0 := by
  induction ds with
  | nil => exact ⟨fun _ => undef, rfl⟩
  | cons e ds ih =>
    obtain ⟨k, d⟩ := e
    simp only [List.map_cons, List.nodup_cons] at hk
    obtain ⟨v0, h0⟩ := ih hk.2
    refine ⟨upd v0 k (a.tmps.getD d undef), ?_⟩
    have h2 : ∀ e ∈ ds, e.1 ≠ k := fun e he hh => hk.1 (by rw [← hh]; exact List.mem_map_of_mem he)
    simp only [frOf]
    rw [upd_same, put_self, frOf_same h2]
    exact h0

/-- THE RULE, with the frame made by the region's own slots. -/
theorem region_inv2 {P : Program} {ops : Array Oper} {Q : Exit → Act → World → Prop} {id : Nat} {a : Act} {w : World} (ds : List (Nat × Nat)) (φ : Nat → Value → World → Prop) (S : (Nat → Bool) → World → Prop) (T : Nat → World → World → Prop)
    (hm : P.follows .mixedOrders = true) (hdep : depsB ops = true) (hds : dsts ops = ds) (hk : decide ((ds.map (·.1)).Nodup) = true) (hd : decide ((ds.map (·.2)).Nodup) = true) (hS : S (fun _ => false) w.drew)
    (hst : ∀ i j v w w', j ≠ i → φ j v w → T i w w' → φ j v w')
    (hop : ∀ i L vals w, i < ops.size → (∀ j, L j = true → φ j (vals j) w) → S L w → L i = false → (∀ j ∈ deps ops i, L j = true) →
      wpOp P ops Q i (fun a' w' => ∃ v, a' = (frOf ds a vals).put ((ops[i]?).bind (·.dst)) v ∧ φ i v w' ∧ T i w w' ∧ S (upd L i true) w') (frOf ds a vals) w)
    (hend : ∀ L vals w, (∀ j, j < ops.size → L j = true) → (∀ j, j < ops.size → φ j (vals j) w) → S L w → Q .normal (frOf ds a vals) w) :
    (Code.region id ops true).wp P Q a w := by
  have hk' := of_decide_eq_true hk
  have hd' := of_decide_eq_true hd
  obtain ⟨v0, h0⟩ := frOf_self ds hk' a
  refine region_inv (frOf ds a) φ S T hm hdep v0 h0 hS hst ?_ hend
  intro i L vals w hi hφ hS' hL hdp
  refine wpOp_mono ?_ (hop i L vals w hi hφ hS' hL hdp)
  rintro a' w' ⟨v, rfl, h1, h2, h3⟩
  refine ⟨v, ?_, h1, h2, h3⟩
  cases hdst : (ops[i]?).bind (·.dst) with
  | some d =>
    refine frOf_put hk' hd' ?_ v a vals
    rw [← hds]
    unfold dsts
    rw [List.mem_filterMap]
    exact ⟨i, by simp [hi], by simp [hdst]⟩
  | none =>
    have h2 : ∀ e ∈ ds, e.1 ≠ i := by
      intro e he hh
      rw [← hds] at he
      unfold dsts at he
      rw [List.mem_filterMap] at he
      obtain ⟨k, _, hk2⟩ := he
      simp only [Option.map_eq_some_iff] at hk2
      obtain ⟨d, hd2, rfl⟩ := hk2
      simp only at hh
      subst hh
      rw [hdst] at hd2
      cases hd2
    rw [frOf_same h2]
    rfl
theorem frOf_size (ds : List (Nat × Nat)) : ∀ (a : Act) (vals : Nat → Value), (frOf ds a vals).tmps.size = a.tmps.size ∧ (frOf ds a vals).defers = a.defers := by
  induction ds with
  | nil => intro a vals; exact ⟨rfl, rfl⟩
  | cons e ds ih =>
    intro a vals
    obtain ⟨k, d⟩ := e
    simp only [frOf]
    obtain ⟨h1, h2⟩ := ih (a.put (some d) (vals k)) vals
    exact ⟨by rw [h1]; simp [Act.put], by rw [h2]; rfl⟩
/-- What an operation left in its slot. -/
def slotOf (d : Option Nat) (a : Act) : Value := match d with
  | some d => a.tmps.getD d undef
  | none => undef
/-- One operation, by the value that it leaves and the world behind it. -/
def wpAt (P : Program) (ops : Array Oper) (Q : Exit → Act → World → Prop) (i : Nat) (R : Value → World → Prop) (a : Act) (w : World) : Prop :=
  match ops[i]? with
  | some o => wpList P ops (Exit.then (fun a' w' => a'.defers = a.defers ∧ R (slotOf o.dst a') w') Q) [o] a w
  | none => True
theorem wpAt_of {P : Program} {ops : Array Oper} {Q : Exit → Act → World → Prop} {i : Nat} {o : Oper} {d : Nat} {R : Value → World → Prop} {a : Act} {w : World} (hi : ops[i]? = some o) (hd : o.dst = some d)
    (h : wpList P ops (Exit.then (fun a' w' => a'.defers = a.defers ∧ R (a'.tmps.getD d undef) w') Q) [o] a w) : wpAt P ops Q i R a w := by
  unfold wpAt
  rw [hi]
  simp only [hd, slotOf]
  exact h
theorem wpAt_none {P : Program} {ops : Array Oper} {Q : Exit → Act → World → Prop} {i : Nat} {o : Oper} {R : Value → World → Prop} {a : Act} {w : World} (hi : ops[i]? = some o) (hd : o.dst = none)
    (h : wpList P ops (Exit.then (fun a' w' => a'.defers = a.defers ∧ R undef w') Q) [o] a w) : wpAt P ops Q i R a w := by
  unfold wpAt
  rw [hi]
  simp only [hd, slotOf]
  exact h
theorem wpAt_op {P : Program} {ops : Array Oper} {Q : Exit → Act → World → Prop} {i : Nat} {R : Value → World → Prop} {a : Act} {w : World} (hlt : ∀ d, (ops[i]?).bind (·.dst) = some d → d < a.tmps.size) (hi : i < ops.size)
    (h : wpAt P ops Q i R a w) : wpOp P ops Q i (fun a' w' => ∃ v, a' = a.put ((ops[i]?).bind (·.dst)) v ∧ R v w') a w := by
  obtain ⟨o, ho⟩ : ∃ o, ops[i]? = some o := ⟨ops[i], Array.getElem?_eq_getElem hi⟩
  unfold wpAt at h
  rw [ho] at h hlt
  simp only at h
  simp only [Option.bind_some] at hlt
  have h2 := wpOp_of_list ho h
  have val : ∀ v, slotOf o.dst (a.put o.dst v) = v ∨ o.dst = none := by
    intro v
    cases hd : o.dst with
    | none => exact .inr rfl
    | some d =>
      left
      have := hlt d hd
      simp [slotOf, Act.put, this]
  have fin : ∀ v w', (a.put o.dst v).defers = a.defers ∧ R (slotOf o.dst (a.put o.dst v)) w' → ∃ u, a.put o.dst v = a.put o.dst u ∧ R u w' := by
    rintro v w' ⟨_, hR⟩
    rcases val v with e | e
    · exact ⟨v, rfl, by rw [e] at hR; exact hR⟩
    · rw [e] at hR ⊢
      exact ⟨undef, rfl, hR⟩
  unfold wpOp at h2 ⊢
  rw [ho] at h2 ⊢
  simp only [Option.bind_some] at h2 ⊢
  split
  · rename_i hw
    rw [if_pos hw] at h2
    refine h2.imp ?_ id
    intro h3
    unfold Oper.wp at h3 ⊢
    generalize (execOp a.eval o).run P w = r at h3 ⊢
    cases r with
    | ok n w' =>
      cases n <;> simp only [Oper.upon] at h3 ⊢ <;>
        first
          | exact fin _ _ h3
          | (exfalso
             have h4 := h3.1
             cases hd : o.dst <;> simp [hd, Act.put] at h4)
          | exact Calls.mono h3 (fun e w'' he => by cases e <;> first | exact fin _ _ he | exact he)
          | exact Rows.mono h3 (fun _ _ he => fin _ _ he)
    | halt x w' => cases x <;> simp only [Oper.upon] at h3 ⊢ <;> exact h3
  · rename_i hw
    rw [if_neg hw] at h2
    exact fin _ _ h2

/-- THE RULE, by values: what an operation leaves in its slot, and the world behind it. -/
theorem region_inv3 {P : Program} {ops : Array Oper} {Q : Exit → Act → World → Prop} {id : Nat} {a : Act} {w : World} (ds : List (Nat × Nat)) (φ : Nat → Value → World → Prop) (S : (Nat → Bool) → World → Prop) (T : Nat → World → World → Prop)
    (hm : P.follows .mixedOrders = true) (hdep : depsB ops = true) (hds : dsts ops = ds) (hk : decide ((ds.map (·.1)).Nodup) = true) (hd : decide ((ds.map (·.2)).Nodup) = true) (hlt : (ds.all fun e => decide (e.2 < a.tmps.size)) = true) (hS : S (fun _ => false) w.drew)
    (hst : ∀ i j v w w', j ≠ i → φ j v w → T i w w' → φ j v w')
    (hop : ∀ i L vals w, i < ops.size → (∀ j, L j = true → φ j (vals j) w) → S L w → L i = false → (∀ j ∈ deps ops i, L j = true) →
      wpAt P ops Q i (fun v w' => φ i v w' ∧ T i w w' ∧ S (upd L i true) w') (frOf ds a vals) w)
    (hend : ∀ L vals w, (∀ j, j < ops.size → L j = true) → (∀ j, j < ops.size → φ j (vals j) w) → S L w → Q .normal (frOf ds a vals) w) :
    (Code.region id ops true).wp P Q a w := by
  refine region_inv2 ds φ S T hm hdep hds hk hd hS hst ?_ hend
  intro i L vals w' hi hφ hS' hL hdp
  refine wpAt_op (fun d hd' => ?_) hi (hop i L vals w' hi hφ hS' hL hdp)
  rw [(frOf_size ds a vals).1]
  rw [List.all_eq_true] at hlt
  have hm' : (i, d) ∈ ds := by
    rw [← hds]
    unfold dsts
    rw [List.mem_filterMap]
    exact ⟨i, by simp [hi], by simp [hd']⟩
  simpa using hlt (i, d) hm'
end Go.Proofs.Ytiehokibfdaleaa
