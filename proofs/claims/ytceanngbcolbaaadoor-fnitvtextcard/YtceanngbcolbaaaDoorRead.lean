/- What l1Value and the model's NumRead answer. Condition: a text of at most 1048576 bytes. -/
import Derived.Test.YtceanngbcolbaaaDoorText
import Derived.WalkKit
import Derived.ProofKit
import Derived.OpenShut
import Derived.Below
import Derived.WalkSpells
import Derived.Lib.Strings
import Derived.Lib.SmallJoins
namespace Go.Proofs.YtceanngbcolbaaaDoor
open Go.ChangeShapes Go.WideShapes Go.ChangeAt Go.RowKit

/-- What l1Value tells: of 1 to 6 bytes, all digits, their value; else 0 and false. -/
def valN (l : List UInt8) : Option Nat := if l.length = 0 ∨ 6 < l.length then none else val 0 l

theorem valN_no {l : List UInt8} (h : l.length = 0 ∨ 6 < l.length) : valN l = none := by unfold valN; rw [if_pos h]
theorem valN_yes {l : List UInt8} (h : l.length ≠ 0) (h' : l.length ≤ 6) : valN l = val 0 l := by unfold valN; rw [if_neg (by omega)]
theorem val_bad {v : Nat} {c : UInt8} {r : List UInt8} (h : c.toNat < 48 ∨ 57 < c.toNat) : val v (c :: r) = none := by simp only [val]; rw [if_neg (by omega)]
theorem val_good {v : Nat} {c : UInt8} {r : List UInt8} (h : ¬ c.toNat < 48) (h' : ¬ 57 < c.toNat) : val v (c :: r) = val (v * 10 + (c.toNat - 48)) r := by simp only [val]; rw [if_pos (by omega)]

set_option maxHeartbeats 1000000 in
theorem valueS (s : ByteArray) (w : World) (hs : s.size ≤ 1048576) :
    Calls Tryd.prog 29 #[.string s] w fun e w' => e = .returned (.tuple #[.int .i64 ((valN s.data.toList).getD 0 : Nat), .bool (valN s.data.toList).isSome]) ∧ w' = w := by
  have hlen : s.data.toList.length = s.size := by rw [Array.length_toList]; rfl
  by_cases h0 : s.size = 0
  · have e1 : valN s.data.toList = none := by exact valN_no (by omega)
    rw [e1]
    clear e1 hlen
    have g0 : ((s.size : Int) == 0) = true := beq_iff_eq.2 (by omega)
    go_enter Tryd.func29, Tryd.ntmps29
    go_wp2
    all_goals go_ret2
    all_goals exact ⟨rfl, rfl⟩
  by_cases h6 : 6 < s.size
  · have e1 : valN s.data.toList = none := by exact valN_no (by omega)
    rw [e1]
    clear e1 hlen
    have g0 : ((s.size : Int) == 0) = false := beq_eq_false_iff_ne.2 (by omega)
    have g6 : (6 : Int) < (s.size : Int) := by omega
    go_enter Tryd.func29, Tryd.ntmps29
    go_wp2
    all_goals go_ret2
    all_goals exact ⟨rfl, rfl⟩
  have e1 : valN s.data.toList = val 0 s.data.toList := by exact valN_yes (by omega) (by omega)
  rw [e1]
  clear e1
  have g0 : ((s.size : Int) == 0) = false := beq_eq_false_iff_ne.2 (by omega)
  have g6 : ¬ (6 : Int) < (s.size : Int) := by omega
  go_enter Tryd.func29, Tryd.ntmps29
  go_wp2
  go_loop [4, 5] (fun n i => ∃ k v : Nat, k ≤ s.size ∧ i = .int .i64 k ∧ n = .int .i64 v ∧ v < 10 ^ k ∧ val v (s.data.toList.drop k) = val 0 s.data.toList) (fun _ i => s.size - (intOf i).toNat)
  case atStart => exact ⟨0, 0, by omega, rfl, rfl, by simp, by simp⟩
  case round =>
    obtain ⟨k, v, hk, rfl, rfl, hv, hd⟩ := hrel
    by_cases hlt : k < s.size
    · have hcons : s.data.toList.drop k = s[k] :: s.data.toList.drop (k + 1) := by
        rw [List.drop_eq_getElem_cons (by omega)]; rfl
      have hpw : 10 ^ k ≤ 100000 := by
        have := Nat.pow_le_pow_right (n := 10) (by omega) (show k ≤ 5 by omega)
        simpa using this
      rw [hcons] at hd
      have HD : Hid (val v (s[k] :: s.data.toList.drop (k + 1)) = val 0 s.data.toList) := hd
      have HV : Hid (v < 10 ^ k) := hv
      have hv' : v < 100000 := by omega
      clear hd hcons hv hpw
      have hi : (k : Int) < (s.size : Int) := by omega
      have hb : s[k].toNat < 256 := UInt8.toNat_lt _
      by_cases hc1 : s[k].toNat < 48
      · have j1 : (s[k].toNat : Int) < 48 := by omega
        go_wp2
        go_ret2
        have e := HD.out
        rw [val_bad (.inl hc1)] at e
        refine ⟨ret2 ?_ ?_, rfl⟩ <;> rw [← e] <;> rfl
      · by_cases hc2 : 57 < s[k].toNat
        · have j1 : ¬ (s[k].toNat : Int) < 48 := by omega
          have j2 : (57 : Int) < (s[k].toNat : Int) := by omega
          go_wp2
          go_ret2
          have e := HD.out
          rw [val_bad (.inr hc2)] at e
          refine ⟨ret2 ?_ ?_, rfl⟩ <;> rw [← e] <;> rfl
        · have j1 : ¬ (s[k].toNat : Int) < 48 := by omega
          have j2 : ¬ (57 : Int) < (s[k].toNat : Int) := by omega
          go_wp2
          have e := HD.out
          rw [val_good hc1 hc2] at e
          have hv := HV.out
          refine ⟨⟨k + 1, v * 10 + (s[k].toNat - 48), by omega, by go_num, ?_, ?_, e⟩, by simp [intOf]; omega⟩
          · rw [show ((v * 10 + (s[k].toNat - 48) : Nat) : Int) = (v : Int) * 10 + ((s[k].toNat : Int) - 48) from by omega]
          · rw [Nat.pow_succ]; omega
    · have HD : Hid (val v (s.data.toList.drop k) = val 0 s.data.toList) := hd
      clear hd
      go_wp2
      go_ret2
      have e := HD.out
      rw [List.drop_of_length_le (by omega)] at e
      refine ⟨ret2 ?_ ?_, rfl⟩ <;> rw [← e] <;> rfl

theorem valN_dec (u : Nat) (h : u < 1000000) : valN (Lib.decDigits u) = some u := by
  obtain ⟨l1, l2⟩ := dec_length u h
  rw [valN_yes (by omega) l2]
  exact val_dec u

theorem plain_val {l : List UInt8} (h0 : l.head? ≠ some 45) {m : Int} (hm : okB m = true) (e : Lib.itoa m = l) : ∃ u : Nat, m = u ∧ valN l = some u := by
  have h1 := ok_lo hm
  have h2 := ok_hi hm
  by_cases hn : m < 0
  · obtain ⟨u, rfl⟩ : ∃ u : Nat, m = -(u : Int) := ⟨m.natAbs, by omega⟩
    rw [Lib.itoa_neg u (by omega)] at e
    rw [← e] at h0
    exact absurd rfl h0
  · obtain ⟨u, rfl⟩ := Int.eq_ofNat_of_zero_le (by omega : 0 ≤ m)
    rw [Lib.itoa_nonneg u] at e
    exact ⟨u, rfl, by rw [← e]; exact valN_dec u (by omega)⟩

theorem neg_val {l : List UInt8} {m : Int} (hm : okB m = true) (e : Lib.itoa m = 45 :: l) : ∃ u : Nat, m = -(u : Int) ∧ valN l = some u := by
  have h1 := ok_lo hm
  have h2 := ok_hi hm
  by_cases hn : m < 0
  · obtain ⟨u, rfl⟩ : ∃ u : Nat, m = -(u : Int) := ⟨m.natAbs, by omega⟩
    rw [Lib.itoa_neg u (by omega)] at e
    exact ⟨u, rfl, by rw [← List.cons.inj e |>.2]; exact valN_dec u (by omega)⟩
  · obtain ⟨u, rfl⟩ := Int.eq_ofNat_of_zero_le (by omega : 0 ≤ m)
    rw [Lib.itoa_nonneg u] at e
    obtain ⟨c, r, ec, hc, _⟩ := dec_head u
    rw [ec] at e
    have := (List.cons.inj e).1
    subst this
    exact absurd hc (by decide)

theorem val_lt {l : List UInt8} : ∀ {acc u : Nat}, val acc l = some u → u < (acc + 1) * 10 ^ l.length := by
  induction l with
  | nil => intro acc u h; simp only [val, Option.some.injEq] at h; subst h; simp
  | cons c r ih =>
    intro acc u h
    simp only [val] at h
    split at h
    · rename_i hc
      have a := ih h
      rw [List.length_cons, Nat.pow_succ, Nat.mul_comm (10 ^ r.length) 10, ← Nat.mul_assoc]
      exact Nat.lt_of_lt_of_le a (Nat.mul_le_mul_right _ (by omega))
    · cases h

theorem valN_lt {l : List UInt8} {u : Nat} (h : valN l = some u) : u < 1000000 := by
  unfold valN at h
  split at h
  · cases h
  · rename_i hl
    have a := val_lt h
    have := Nat.pow_le_pow_right (n := 10) (by omega) (show l.length ≤ 6 by omega)
    omega

/-- A number whose text is not empty is one. -/
theorem ok_of_text {n : Int} {l : List UInt8} (hl : l ≠ []) (h : textOf n = l) : okB n = true ∧ Lib.itoa n = l := by
  rcases Bool.eq_false_or_eq_true (okB n) with hb | hb
  · exact ⟨hb, by rw [textOf_ok hb] at h; exact h⟩
  · rw [textOf_no hb] at h; exact absurd h.symm hl

set_option maxHeartbeats 1000000 in
theorem readS (s : ByteArray) (w : World) (hs : s.size ≤ 1048576) :
    Calls Tryd.prog 18 #[.string s] w fun e w' => ∃ (n : Int) (b : Bool), e = .returned (.tuple #[.int .i64 n, .bool b]) ∧ IsRead s.data.toList n b ∧ Below w.heap.size w w' := by
  have hlen : s.data.toList.length = s.size := by rw [Array.length_toList]; rfl
  by_cases h0 : s.size = 0
  · have hnil : s.data.toList = [] := List.length_eq_zero_iff.1 (by omega)
    have HN : Hid (s.data.toList = []) := hnil
    have e1 : valN s.data.toList = none := valN_no (by omega)
    clear hnil hlen
    have g0 : ¬ (0 : Int) < (s.size : Int) := by omega
    go_enter Tryd.func18, Tryd.ntmps18
    go_wp2_with fail
    refine (valueS s _ hs).mono ?_
    rintro e w' ⟨rfl, rfl⟩
    go_wp2_with fail
    go_ret2
    exact ⟨0, false, rfl, .inr ⟨rfl, rfl, fun m _ => by rw [HN.out]; exact itoa_ne m⟩, Below.refl _ _⟩
  have g0 : (0 : Int) < (s.size : Int) := by omega
  have hne : s.data.toList ≠ [] := fun e => by rw [e] at hlen; simp at hlen; omega
  have hcons : s.data.toList = s[0] :: s.data.toList.drop 1 := by
    have e := List.drop_eq_getElem_cons (l := s.data.toList) (i := 0) (by omega)
    rw [List.drop_zero] at e
    exact e
  have HL : Hid (s.data.toList = s[0] :: s.data.toList.drop 1) := hcons
  clear hcons
  by_cases hc : s[0].toNat = 45
  · have gc : ((s[0].toNat : Int) == 45) = true := beq_iff_eq.2 (by omega)
    have hb0 : s[0] = 45 := UInt8.toNat_inj.1 hc
    have HT : Hid (s.data.toList = 45 :: (s.extract 1 s.size).data.toList) := by
      show s.data.toList = 45 :: (s.extract 1 s.size).data.toList
      rw [Lib.extract_data, List.take_of_length_le (by simp), ← hb0]
      exact HL.out
    clear hb0 HL
    have hsz : (s.extract 1 s.size).size = s.size - 1 := by
      have e1 : (s.extract 1 s.size).data.toList.length = (s.extract 1 s.size).size := by rw [Array.length_toList]; rfl
      have := congrArg List.length HT.out
      simp only [List.length_cons] at this
      omega
    have hle : ((s.size - 1 : Nat) : Int) < (s.size : Int) := by omega
    go_enter Tryd.func18, Tryd.ntmps18
    go_wp2_with fail
    refine (valueS (s.extract 1 s.size) _ (by omega)).mono ?_
    rintro e w' ⟨rfl, rfl⟩
    cases hv : valN (s.extract 1 s.size).data.toList with
    | none =>
      have HV : Hid (valN (s.extract 1 s.size).data.toList = none) := hv
      clear hv
      go_wp2_with fail
      go_ret2
      refine ⟨0, false, rfl, .inr ⟨rfl, rfl, fun m hm e => ?_⟩, Below.refl _ _⟩
      rw [HT.out] at e
      obtain ⟨u, _, k⟩ := neg_val hm e
      rw [HV.out] at k
      cases k
    | some u =>
      have hu := valN_lt hv
      have HV : Hid (valN (s.extract 1 s.size).data.toList = some u) := hv
      clear hv
      go_wp2_with fail
      refine (textS (-(u : Int)) _).mono ?_
      rintro e w1 ⟨rfl, hb⟩
      cases hq : (textOf (-(u : Int)) == s.toList) with
      | true =>
        go_wp2_with fail
        go_ret2
        have q : textOf (-(u : Int)) = s.data.toList := by rw [← ByteArray.toList_eq]; exact beq_iff_eq.1 hq
        obtain ⟨k1, k2⟩ := ok_of_text hne q
        exact ⟨_, true, rfl, .inl ⟨rfl, k1, k2⟩, hb⟩
      | false =>
        go_wp2_with fail
        go_ret2
        refine ⟨0, false, rfl, .inr ⟨rfl, rfl, fun m hm e => ?_⟩, hb⟩
        have e' := e
        rw [HT.out] at e'
        obtain ⟨v, rfl, k⟩ := neg_val hm e'
        rw [HV.out] at k
        obtain rfl := Option.some.inj k
        rw [beq_eq_false_iff_ne, ByteArray.toList_eq, textOf_ok hm] at hq
        exact hq e
  · have gc : ((s[0].toNat : Int) == 45) = false := beq_eq_false_iff_ne.2 (by omega)
    have hh : s.data.toList.head? ≠ some 45 := by
      rw [HL.out]
      intro e
      simp only [List.head?_cons, Option.some.injEq] at e
      exact hc (by rw [e]; rfl)
    have HH : Hid (s.data.toList.head? ≠ some 45) := hh
    clear hh HL
    go_enter Tryd.func18, Tryd.ntmps18
    go_wp2_with fail
    refine (valueS s _ hs).mono ?_
    rintro e w' ⟨rfl, rfl⟩
    cases hv : valN s.data.toList with
    | none =>
      have HV : Hid (valN s.data.toList = none) := hv
      clear hv
      go_wp2_with fail
      go_ret2
      refine ⟨0, false, rfl, .inr ⟨rfl, rfl, fun m hm e => ?_⟩, Below.refl _ _⟩
      obtain ⟨u, _, k⟩ := plain_val HH.out hm e
      rw [HV.out] at k
      cases k
    | some u =>
      have hu := valN_lt hv
      have HV : Hid (valN s.data.toList = some u) := hv
      clear hv
      go_wp2_with fail
      refine (textS u _).mono ?_
      rintro e w1 ⟨rfl, hb⟩
      cases hq : (textOf (u : Int) == s.toList) with
      | true =>
        go_wp2_with fail
        go_ret2
        have q : textOf (u : Int) = s.data.toList := by rw [← ByteArray.toList_eq]; exact beq_iff_eq.1 hq
        obtain ⟨k1, k2⟩ := ok_of_text hne q
        exact ⟨_, true, rfl, .inl ⟨rfl, k1, k2⟩, hb⟩
      | false =>
        go_wp2_with fail
        go_ret2
        refine ⟨0, false, rfl, .inr ⟨rfl, rfl, fun m hm e => ?_⟩, hb⟩
        obtain ⟨v, rfl, k⟩ := plain_val HH.out hm e
        rw [HV.out] at k
        obtain rfl := Option.some.inj k
        rw [beq_eq_false_iff_ne, ByteArray.toList_eq, textOf_ok hm] at hq
        exact hq e

theorem below_bytes (w : World) (t : ByteArray) : Below w.heap.size w (Lib.bytesWorld w 5 t) := Joins.below_bytesWorld _ _ _ _ (Nat.le_refl _)

set_option maxHeartbeats 1000000 in
theorem readI (s : ByteArray) (w : World) (hs : s.size ≤ 1048576) (htab : Lib.TabIs Tryd.prog w "internal/strconv.uint64pow10" .u64 Lib.pow10Tab) (tp tq : TypeId) (p q : Value)
    (hp : w.var? Tryd.prog "strconv.ErrSyntax" = some #[.iface tp p]) (hq : w.var? Tryd.prog "strconv.ErrRange" = some #[.iface tq q]) :
    Calls Tryd.prog 17 #[.string s] w fun e w' => ∃ (n : Int) (b : Bool), e = .returned (.tuple #[.int .i64 n, .bool b]) ∧ IsRead s.data.toList n b ∧ Below w.heap.size w w' := by
  by_cases hv : ∃ v, Lib.atoiAll s.data.toList = .ok v
  · obtain ⟨v, hv⟩ := hv
    have HV : Hid (Lib.atoiAll s.data.toList = .ok v) := hv
    have hne : s.data.toList ≠ [] := fun e => by rw [e] at hv; cases hv
    clear hv
    go_enter Tryd.func17, Tryd.ntmps17
    go_wp2_with fail
    refine (Tryd.strconv_Atoi_ok s (by omega) v HV.out _).mono ?_
    rintro e w1 ⟨rfl, hw⟩
    have b1 : Below w.heap.size w w1 := by
      rcases hw with rfl | ⟨t, rfl⟩
      · exact Below.refl _ _
      · exact below_bytes _ _
    clear hw
    go_wp2_with fail
    refine (textI v _ (tab_below htab b1)).mono ?_
    rintro e w2 ⟨rfl, b2⟩
    have b3 : Below w.heap.size w w2 := b1.trans (b2.mono b1.size)
    cases hq : (textOf v == s.toList) with
    | true =>
      go_wp2_with fail
      go_ret2
      have q : textOf v = s.data.toList := by rw [← ByteArray.toList_eq]; exact beq_iff_eq.1 hq
      obtain ⟨k1, k2⟩ := ok_of_text hne q
      exact ⟨_, true, rfl, .inl ⟨rfl, k1, k2⟩, b3⟩
    | false =>
      go_wp2_with fail
      go_ret2
      refine ⟨0, false, rfl, .inr ⟨rfl, rfl, fun m hm e => ?_⟩, b3⟩
      have k := atoi_itoa m hm
      rw [e, HV.out] at k
      obtain rfl := Lib.NumEnd.ok.inj k
      rw [beq_eq_false_iff_ne, ByteArray.toList_eq, textOf_ok hm] at hq
      exact hq e
  · have hf : ∀ v, Lib.atoiAll s.data.toList ≠ .ok v := fun v e => hv ⟨v, e⟩
    have HF : Hid (∀ v, Lib.atoiAll s.data.toList ≠ .ok v) := hf
    clear hf hv
    go_enter Tryd.func17, Tryd.ntmps17
    go_wp2_with fail
    refine (Tryd.strconv_Atoi_fails s (by omega) HF.out tp tq p q _ hp hq).mono ?_
    rintro e w1 ⟨n, N, rfl, b1⟩
    go_wp2_with fail
    go_ret2
    refine ⟨0, false, rfl, .inr ⟨rfl, rfl, fun m hm e => ?_⟩, b1⟩
    have k := atoi_itoa m hm
    rw [e] at k
    exact HF.out m k
end Go.Proofs.YtceanngbcolbaaaDoor
