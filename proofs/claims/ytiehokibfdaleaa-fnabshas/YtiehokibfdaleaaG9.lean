/- Contracts of chapter 2's functions: the program's (I). Each answers what the plain functions say, whatever the ends are; it makes memory of its own alone. · AbsOk, the model's and the program's: they answer what the plain absOk says; they make memory of their own alone. -/
import Derived.Test.YtiehokibfdaleaaG3
import Derived.WalkKit
import Derived.ProofKit
import Derived.OpenShut
import Derived.Below
import Derived.Test.YtiehokibfdaleaaG8
namespace Go.Proofs.Ytiehokibfdaleaa
open Go.ChangeShapes Go.WideShapes Go.ChangeAt Go.RowKit

theorem itvOkI (a b : Int) (w : World) :
    Calls Try.prog 42 #[.agg #[.int .i64 a, .int .i64 b]] w fun e w' => e = .returned (.bool (itvOk a b)) ∧ Below w.heap.size w w' := by
  have hbel := (Below.refl w.heap.size w).alloc (Nat.le_refl _) (.cells #[.int .i64 a, .int .i64 b] 25)
  rcases Bool.eq_false_or_eq_true (okB a) with ha | ha
  · rcases Bool.eq_false_or_eq_true (okB b) with hb | hb
    · go_enter Try.func42, Try.ntmps42
      go_wp2_with (go_at_call 29; refine (okI _ _).mono ?_; rintro e w' ⟨rfl, rfl⟩)
      all_goals go_ret
      all_goals exact ⟨ret_bool (by simp [itvOk, ha, hb]), hbel⟩
    · go_enter Try.func42, Try.ntmps42
      go_wp2_with (go_at_call 29; refine (okI _ _).mono ?_; rintro e w' ⟨rfl, rfl⟩)
      all_goals go_ret
      all_goals exact ⟨ret_bool (by simp [itvOk, hb]), hbel⟩
  · go_enter Try.func42, Try.ntmps42
    go_wp2_with (go_at_call 29; refine (okI _ _).mono ?_; rintro e w' ⟨rfl, rfl⟩)
    all_goals go_ret
    all_goals exact ⟨ret_bool (by simp [itvOk, ha]), hbel⟩

set_option maxHeartbeats 1000000 in
theorem itvHasI (a b n : Int) (w : World) :
    Calls Try.prog 40 #[.agg #[.int .i64 a, .int .i64 b], .int .i64 n] w fun e w' => e = .returned (.bool (itvHas a b n)) ∧ Below w.heap.size w w' := by
  cases h : itvOk a b
  · go_enter Try.func40, Try.ntmps40
    go_wp2_with fail
    refine (itvOkI _ _ _).mono ?_
    rintro e w1 ⟨rfl, hb⟩
    have b1 := ((Below.refl w.heap.size w).alloc (Nat.le_refl _) _).trans (hb.mono (by simp))
    go_wp2_with fail
    go_ret
    exact ⟨ret_bool (by simp [itvHas, h]), b1⟩
  · go_enter Try.func40, Try.ntmps40
    go_wp2_with fail
    refine (itvOkI _ _ _).mono ?_
    rintro e w1 ⟨rfl, hb⟩
    have b1 := ((Below.refl w.heap.size w).alloc (Nat.le_refl _) _).trans (hb.mono (by simp))
    obtain ⟨hc, hf⟩ := bcell hb
    by_cases h1 : a ≤ n
    · by_cases h2 : n ≤ b
      · go_wp2_with fail
        go_ret
        exact ⟨ret_bool (by simp [itvHas, h, h1, h2]), b1⟩
      · go_wp2_with fail
        go_ret
        exact ⟨ret_bool (by simp [itvHas, h, h1]), b1⟩
    · go_wp2_with fail
      go_ret
      exact ⟨ret_bool (by simp [itvHas, h]; omega), b1⟩

set_option maxHeartbeats 1000000 in
theorem itvInI (a b c d : Int) (w : World) :
    Calls Try.prog 49 #[.agg #[.int .i64 a, .int .i64 b], .agg #[.int .i64 c, .int .i64 d]] w fun e w' => e = .returned (.bool (itvIn a b c d)) ∧ Below w.heap.size w w' := by
  go_enter Try.func49, Try.ntmps49
  go_wp2_with fail
  refine (itvOkI _ _ _).mono ?_
  rintro e w1 ⟨rfl, hb⟩
  have b1 := (((Below.refl w.heap.size w).alloc (Nat.le_refl _) (.cells #[.int .i64 a, .int .i64 b] 25)).alloc (by simp) (.cells #[.int .i64 c, .int .i64 d] 25)).trans (hb.mono (by simp; omega))
  obtain ⟨hc, hf⟩ := bcell hb
  cases h : itvOk a b
  · go_wp2_with fail
    go_ret
    exact ⟨ret_bool (by simp [itvIn, h]), b1⟩
  go_wp2_with fail
  refine (itvOkI _ _ _).mono ?_
  rintro e w2 ⟨rfl, hb'⟩
  have b2 := b1.trans (hb'.mono b1.size)
  obtain ⟨hc2, hf2⟩ := bcell (below_tr hb hb')
  clear hc hf
  cases h' : itvOk c d
  · go_wp2_with fail
    go_ret
    exact ⟨ret_bool (by simp [itvIn, h']), b2⟩
  by_cases h1 : c ≤ a
  · by_cases h2 : b ≤ d
    · go_wp2_with fail
      go_ret
      exact ⟨ret_bool (by simp [itvIn, h, h', h1, h2]), b2⟩
    · go_wp2_with fail
      go_ret
      exact ⟨ret_bool (by simp [itvIn, h, h', h1]), b2⟩
  · go_wp2_with fail
    go_ret
    exact ⟨ret_bool (by simp [itvIn, h, h']; omega), b2⟩

set_option maxHeartbeats 1000000 in
theorem joinI (a b c d : Int) (w : World) :
    Calls Try.prog 73 #[.agg #[.int .i64 a, .int .i64 b], .agg #[.int .i64 c, .int .i64 d]] w fun e w' => e = .returned (.agg #[.int .i64 (joinLo a b c d), .int .i64 (joinHi a b c d)]) ∧ Below w.heap.size w w' := by
  go_enter Try.func73, Try.ntmps73
  go_wp2_with fail
  refine (itvOkI _ _ _).mono ?_
  rintro e w1 ⟨rfl, hb⟩
  have b1 := (show Below w.heap.size w (((w.alloc (.cells #[.int .i64 a, .int .i64 b] 25)).alloc (.cells #[.int .i64 c, .int .i64 d] 25)).alloc (.cells #[.int .i64 0, .int .i64 0] 25)) from by repeat (first | exact Below.refl _ _ | refine Below.alloc ?_ (by simp; try omega) _)).trans (hb.mono (by simp; omega))
  obtain ⟨hc, hf⟩ := bcell hb
  obtain ⟨e0, e1⟩ := own2 (W := w1) (B := w.heap.size + 1 + 1) (u := .int .i64 0) (v := .int .i64 0) (by rw [hc (w.heap.size + 1 + 1) 0 (by simp)]; simp [go_sem]) (by rw [hc (w.heap.size + 1 + 1) 1 (by simp)]; simp [go_sem])
  have hs := hb.size
  cases hab : itvOk a b
  · go_wp2_with fail
    refine bodyPost_ret (v := .agg #[.int .i64 (joinLo a b c d), .int .i64 (joinHi a b c d)]) (by simp [results, Try.results73, go_sem, e0, e1, joinLo, joinHi, two, hab]; try omega) rfl ⟨rfl, ?_⟩
    repeat (first | exact b2 | exact b1 | refine Below.drew ?_ | refine Below.alloc ?_ (by simp; try omega) _ | refine Below.setCell ?_ (by simp; try omega) _)
  go_wp2_with fail
  refine (itvOkI _ _ _).mono ?_
  rintro e w2 ⟨rfl, hb'⟩
  have b2 := b1.trans (hb'.mono b1.size)
  obtain ⟨hc2, hf2⟩ := bcell (below_tr hb hb')
  obtain ⟨e0, e1⟩ := own2 (W := w2) (B := w.heap.size + 1 + 1) (u := .int .i64 0) (v := .int .i64 0) (by rw [hc2 (w.heap.size + 1 + 1) 0 (by simp)]; simp [go_sem]) (by rw [hc2 (w.heap.size + 1 + 1) 1 (by simp)]; simp [go_sem])
  have hs2 := hb'.size
  clear hc hf
  cases hcd : itvOk c d
  · go_wp2_with fail
    refine bodyPost_ret (v := .agg #[.int .i64 (joinLo a b c d), .int .i64 (joinHi a b c d)]) (by simp [results, Try.results73, go_sem, e0, e1, joinLo, joinHi, two, hcd]; try omega) rfl ⟨rfl, ?_⟩
    repeat (first | exact b2 | exact b1 | refine Below.drew ?_ | refine Below.alloc ?_ (by simp; try omega) _ | refine Below.setCell ?_ (by simp; try omega) _)
  go_wp2_with fail
  all_goals (refine bodyPost_ret (v := .agg #[.int .i64 (joinLo a b c d), .int .i64 (joinHi a b c d)]) (by simp [results, Try.results73, go_sem, e0, e1, joinLo, joinHi, two, hab, hcd]; try omega) rfl ⟨rfl, ?_⟩)
  all_goals (repeat (first | exact b2 | exact b1 | refine Below.drew ?_ | refine Below.alloc ?_ (by simp; try omega) _ | refine Below.setCell ?_ (by simp; try omega) _))

theorem meet_ok {a b c d : Int} (h1 : itvOk a b = true) (h2 : itvOk c d = true) : itvOk (max a c) (min b d) = meetOk a b c d := by
  have k1 := itvOk_of h1
  have k2 := itvOk_of h2
  have a1 := ok_lo k1.1
  have a2 := ok_hi k1.1
  have a3 := ok_lo k1.2.1
  have a4 := ok_hi k1.2.1
  have a5 := ok_lo k2.1
  have a6 := ok_hi k2.1
  have a7 := ok_lo k2.2.1
  have a8 := ok_hi k2.2.1
  have e1 : okB (max a c) = true := by simp [okB]; omega
  have e2 : okB (min b d) = true := by simp [okB]; omega
  rw [meetOk, two, h1, h2, itvOk, e1, e2]
end Go.Proofs.Ytiehokibfdaleaa
namespace Go.Proofs.Ytiehokibfdaleaa
open Go.ChangeShapes Go.WideShapes Go.ChangeAt Go.RowKit

theorem noneS (a b : Int) (w : World) :
    Calls Try.prog 28 #[.agg #[.int .i64 a, .int .i64 b]] w fun e w' => e = .returned (.bool (decide (a = 0) && decide (b = 0))) ∧ Below w.heap.size w w' := by
  by_cases h1 : a = 0
  · subst h1
    by_cases h2 : b = 0
    · subst h2
      go_enter Try.func28, Try.ntmps28
      go_wp2
      go_ret
      exact ⟨ret_bool (by simp), (Below.refl _ _).alloc (Nat.le_refl _) _⟩
    · go_enter Try.func28, Try.ntmps28
      go_wp2
      all_goals go_ret
      all_goals exact ⟨ret_bool (by simp [h2]), (Below.refl _ _).alloc (Nat.le_refl _) _⟩
  · go_enter Try.func28, Try.ntmps28
    go_wp2
    all_goals go_ret
    all_goals exact ⟨ret_bool (by simp [h1]), (Below.refl _ _).alloc (Nat.le_refl _) _⟩

set_option maxHeartbeats 4000000 in
theorem absOkS (on : Bool) (a : Option Addr) (b off n cap : Nat) (lo hi : Nat → Int) (c d : Int) (w : World) (hC : BndsAt a b off n lo hi w) :
    Calls Try.prog 10 #[.agg #[.bool on, .slice a n cap, .int .i64 c, .int .i64 d]] w fun e w' => e = .returned (.bool (absOk on n lo hi c d)) ∧ Below w.heap.size w w' := by
  have H0 : HeldL w [(w.heap.size, [Value.bool on, .slice a n cap, .int .i64 c, .int .i64 d])] (w.alloc (.cells #[.bool on, .slice a n cap, .int .i64 c, .int .i64 d] 27)) := HeldL.newL (vs := [Value.bool on, .slice a n cap, .int .i64 c, .int .i64 d]) (HeldL.nil w)
  have I0 := hC.next H0.below
  clear hC
  cases on
  · by_cases h0 : n = 0
    · subst h0
      go_enter Try.func10, Try.ntmps10
      go_wp2_with fail
      refine (noneS _ _ _).mono ?_
      rintro e w1 ⟨rfl, hb⟩
      have H1 := H0.next hb
      clear H0 I0
      go_wp2_with fail
      go_ret
      exact ⟨ret_bool (by simp [absOk]), H1.below⟩
    · have h0' : ¬ (n : Int) = 0 := by omega
      go_enter Try.func10, Try.ntmps10
      go_wp2_with fail
      go_ret
      exact ⟨ret_bool (by simp [absOk, h0]), H0.below⟩
  by_cases h4 : n = 4
  · subst h4
    have e1 := I0.at_ (by omega)
    subst e1
    go_enter Try.func10, Try.ntmps10
    go_wp2_with fail
    refine (itvOkS _ _ _).mono ?_
    rintro e w1 ⟨rfl, hb⟩
    have H1 := H0.next hb
    have I1 := I0.next hb
    clear H0 I0 hb
    cases g : itvOk c d
    · go_wp2_with fail
      go_ret
      exact ⟨ret_bool (by simp [absOk, g]), H1.below⟩
    have hR : Hid (absOk true 4 lo hi c d = allOk lo hi 4) := (by simp [absOk, g] : _ = _)
    clear g
    go_wp2_with fail
    go_loopw [3] (fun i wr => ∃ k : Nat, k ≤ 4 ∧ i = .int .i64 k ∧ Hid (allOk lo hi k = true) ∧ HeldL w [(w.heap.size, [Value.bool true, .slice (some ⟨b, off, none⟩) 4 cap, .int .i64 c, .int .i64 d])] wr ∧ BndsAt (some ⟨b, off, none⟩) b off 4 lo hi wr) (fun i _ => 4 - (intOf i).toNat)
    case atStart => exact ⟨0, Nat.zero_le _, rfl, (rfl : _ = _), H1, I1⟩
    case round =>
      obtain ⟨k, hk, rfl, hO, H, I⟩ := hrel
      clear H1 I1
      have c1 := H.cell List.mem_cons_self (i := 1) rfl
      dsimp only at c1
      by_cases hlt : k < 4
      · have t1 : ((k : Int)).toNat = k := by omega
        have t2 : (0 : Int) ≤ (k : Int) := by omega
        have t3 : (k : Int) < 4 := by omega
        have d0 := I.lo k hlt
        have d1 := I.hi k hlt
        go_wp2_with fail
        refine (itvOkS _ _ _).mono ?_
        rintro e w2 ⟨rfl, hb⟩
        have H2 := H.next hb
        have I2 := I.next hb
        clear H I hb c1 d0 d1
        cases g : itvOk (lo k) (hi k)
        · go_wp2_with fail
          go_ret
          exact ⟨ret_bool (by rw [hR.out, allOk_false hlt g]), H2.below⟩
        · have gS : Hid (itvOk (lo k) (hi k) = true) := g
          clear g
          go_wp2_with fail
          go_roundw
          case rel => exact ⟨k + 1, by omega, by go_num, (by simp only [allOk, hO.out, gS.out, Bool.and_self] : _ = _), H2, I2⟩
          case measure => simp [intOf]; omega
      · obtain rfl : k = 4 := by omega
        go_wp2_with fail
        go_ret
        exact ⟨ret_bool (by rw [hR.out, hO.out]), H.below⟩
  · have h4' : ¬ (n : Int) = 4 := by omega
    go_enter Try.func10, Try.ntmps10
    go_wp2_with fail
    go_ret
    exact ⟨ret_bool (by simp [absOk, h4]), H0.below⟩

set_option maxHeartbeats 4000000 in
theorem absOkI (on : Bool) (a : Option Addr) (b off n cap : Nat) (lo hi : Nat → Int) (c d : Int) (w : World) (hn : n ≤ 1048576) (hC : BndsAt a b off n lo hi w) :
    Calls Try.prog 17 #[.agg #[.bool on, .slice a n cap, .int .i64 c, .int .i64 d]] w fun e w' => e = .returned (.bool (absOk on n lo hi c d)) ∧ Below w.heap.size w w' := by
  have H0 : HeldL w [(w.heap.size, [Value.bool on, .slice a n cap, .int .i64 c, .int .i64 d])] (w.alloc (.cells #[.bool on, .slice a n cap, .int .i64 c, .int .i64 d] 27)) := HeldL.newL (vs := [Value.bool on, .slice a n cap, .int .i64 c, .int .i64 d]) (HeldL.nil w)
  have I0 := hC.next H0.below
  clear hC
  cases on
  · by_cases h0 : n = 0
    · subst h0
      by_cases h1 : c = 0
      · subst h1
        by_cases h2 : d = 0
        · subst h2
          go_enter Try.func17, Try.ntmps17
          go_wp2_with fail
          go_ret
          exact ⟨ret_bool (by simp [absOk]), H0.below⟩
        · go_enter Try.func17, Try.ntmps17
          go_wp2_with fail
          go_ret
          exact ⟨ret_bool (by simp [absOk, h2]), H0.below⟩
      · go_enter Try.func17, Try.ntmps17
        go_wp2_with fail
        go_ret
        exact ⟨ret_bool (by simp [absOk, h1]), H0.below⟩
    · have h0' : ¬ (n : Int) = 0 := by omega
      go_enter Try.func17, Try.ntmps17
      go_wp2_with fail
      go_ret
      exact ⟨ret_bool (by simp [absOk, h0]), H0.below⟩
  go_enter Try.func17, Try.ntmps17
  go_wp2_with fail
  go_loopw [21] (fun i wr => ∃ k : Nat, k ≤ n ∧ i = .int .i64 k ∧ Hid (allOk lo hi k = true) ∧ HeldL w [(w.heap.size, [Value.bool true, .slice a n cap, .int .i64 c, .int .i64 d])] wr ∧ BndsAt a b off n lo hi wr) (fun i _ => n - (intOf i).toNat)
  case atStart => exact ⟨0, Nat.zero_le _, rfl, (rfl : _ = _), H0, I0⟩
  case round =>
    obtain ⟨k, hk, rfl, hO, H, I⟩ := hrel
    clear H0 I0
    by_cases hlt : k < n
    · have e1 := I.at_ (by omega)
      subst e1
      have t1 : ((k : Int)).toNat = k := by omega
      have t2 : (0 : Int) ≤ (k : Int) := by omega
      have t3 : (k : Int) < (n : Int) := by omega
      have d0 := I.lo k hlt
      have d1 := I.hi k hlt
      have hA := H.alloc (.cells #[.int .i64 (lo k), .int .i64 (hi k)] 25)
      have hI := I.next ((Below.refl wr.heap.size wr).alloc (Nat.le_refl _) (.cells #[.int .i64 (lo k), .int .i64 (hi k)] 25))
      go_wp2_with fail
      refine (itvOkI _ _ _).mono ?_
      rintro e w2 ⟨rfl, hb⟩
      have H2 := hA.next hb
      have I2 := hI.next hb
      clear H I hA hI hb d0 d1
      cases g : itvOk (lo k) (hi k)
      · go_wp2_with fail
        go_ret
        exact ⟨ret_bool (by simp [absOk, allOk_false hlt g]), H2.below⟩
      · have gS : Hid (itvOk (lo k) (hi k) = true) := g
        clear g
        go_wp2_with fail
        go_roundw
        case rel => exact ⟨k + 1, by omega, by go_num, (by simp only [allOk, hO.out, gS.out, Bool.and_self] : _ = _), H2, I2⟩
        case measure => simp [intOf]; omega
    · obtain rfl : k = n := by omega
      have c1 := H.cell List.mem_cons_self (i := 1) rfl
      have c2 := H.cell List.mem_cons_self (i := 2) rfl
      have c3 := H.cell List.mem_cons_self (i := 3) rfl
      dsimp only at c1 c2 c3
      by_cases h4 : k = 4
      · have h4' : (k : Int) = 4 := by omega
        go_wp2_with fail
        refine (itvOkI _ _ _).mono ?_
        rintro e w2 ⟨rfl, hb⟩
        have H2 := H.next hb
        go_wp2_with fail
        go_ret
        have hO4 : allOk lo hi 4 = true := h4 ▸ hO.out
        exact ⟨ret_bool (by simp [absOk, h4, hO4]), H2.below⟩
      · have h4' : ¬ (k : Int) = 4 := by omega
        go_wp2_with fail
        go_ret
        exact ⟨ret_bool (by simp [absOk, h4]), H.below⟩
end Go.Proofs.Ytiehokibfdaleaa
