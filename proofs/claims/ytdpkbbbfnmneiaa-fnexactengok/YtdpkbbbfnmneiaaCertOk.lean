/- Papers that are ok, the model's and the program's: they answer what the plain crtOk says; they make memory of their own alone. -/
import Derived.Test.YtdpkbbbfnmneiaaCertPart
namespace Go.Proofs.Ytdpkbbbfnmneiaa
open Go.ChangeShapes Go.WideShapes Go.ChangeAt Go.RowKit
set_option linter.unusedVariables false

set_option maxHeartbeats 4000000 in
theorem rowS (a : Option Addr) (b off n cap : Nat) (X : Nat → St) (S : Nat → Spot) (l : Nat) (w : World) (hn : n ≤ 1048576) (hX : StsAt a b off n X S w) :
    Calls Try.prog 43 #[.slice a n cap, .int .i64 (l : Int)] w fun e w' => e = .returned (.bool (decide (n = l) && stsOk X n)) ∧ Below w.heap.size w w' := by
  by_cases hnl : n = l
  case neg =>
    have hnl' : ¬ (n : Int) = (l : Int) := by omega
    go_enter Try.func43, Try.ntmps43
    go_wp2_with fail
    go_ret
    exact ⟨ret_bool (by simp [hnl]), Below.refl _ _⟩
  subst hnl
  have hR : Hid ((decide (n = n) && stsOk X n) = stsOk X n) := (by simp : _ = _)
  go_enter Try.func43, Try.ntmps43
  go_wp2_with fail
  go_loopw [5] (fun i wr => ∃ k : Nat, k ≤ n ∧ i = .int .i64 k ∧ Hid (stsOk X k = true) ∧ Below w.heap.size w wr) (fun i _ => n - (intOf i).toNat)
  case atStart => exact ⟨0, Nat.zero_le _, rfl, (rfl : _ = _), Below.refl _ _⟩
  case round =>
    obtain ⟨k, hk, rfl, hO, hB⟩ := hrel
    by_cases hlt : k < n
    · have I := hX.next hB
      have e1 := I.at_ (by omega)
      subst e1
      have t1 : ((k : Int)).toNat = k := by omega
      have t2 : (0 : Int) ≤ (k : Int) := by omega
      have t3 : (k : Int) < (n : Int) := by omega
      have d0 := I.on k hlt
      have d1 := I.vars k hlt
      have d2 := I.c k hlt
      have d3 := I.d k hlt
      have dB := I.bnds k hlt
      clear hX I
      go_wp2_with fail
      refine (absOkS _ _ _ _ _ _ _ _ _ _ _ dB).mono ?_
      rintro e w2 ⟨rfl, hb⟩
      replace hB := below_tr hB hb
      clear hb d0 d1 d2 d3 dB
      rw [show absOk (X k).on (X k).n (X k).lo (X k).hi (X k).c (X k).d = stOk (X k) from rfl]
      cases g : stOk (X k)
      · go_wp2_with fail
        go_ret
        exact ⟨ret_bool (by rw [hR.out, stsOk_false hlt g]), hB⟩
      · have gS : Hid (stOk (X k) = true) := g
        clear g
        go_wp2_with fail
        go_roundw
        case rel => exact ⟨k + 1, by omega, by go_num, (by simp only [stsOk, hO.out, gS.out, Bool.and_self] : _ = _), hB⟩
        case measure => simp [intOf]; omega
    · obtain rfl : k = n := by omega
      go_wp2_with fail
      go_ret
      exact ⟨ret_bool (by rw [hR.out, hO.out]), hB⟩
set_option maxHeartbeats 4000000 in
theorem allStI (a : Option Addr) (b off n cap : Nat) (X : Nat → St) (S : Nat → Spot) (w : World) (hn : n ≤ 1048576) (hN : ∀ i, i < n → (X i).n ≤ 1048576) (hX : StsAt a b off n X S w) :
    Calls Try.prog 49 #[.slice a n cap, .func (.func 50) #[] #[]] w fun e w' => e = .returned (.bool (stsOk X n)) ∧ Below w.heap.size w w' := by
  obtain ⟨fv, hfv⟩ : ∃ v, v = Value.func (.func 50) #[] #[] := ⟨_, rfl⟩
  rw [← hfv]
  have hfvS : Hid (fv = Value.func (.func 50) #[] #[]) := hfv
  clear hfv
  go_enter Try.func49, Try.ntmps49
  go_wp2_with fail
  go_loopw [9] (fun i wr => ∃ k : Nat, k ≤ n ∧ i = .int .i64 k ∧ Hid (stsOk X k = true) ∧ Below w.heap.size w wr) (fun i _ => n - (intOf i).toNat)
  case atStart => exact ⟨0, Nat.zero_le _, rfl, (rfl : _ = _), Below.refl _ _⟩
  case round =>
    obtain ⟨k, hk, rfl, hO, hB⟩ := hrel
    by_cases hlt : k < n
    · have I := hX.next hB
      have e1 := I.at_ (by omega)
      subst e1
      have t1 : ((k : Int)).toNat = k := by omega
      have t2 : (0 : Int) ≤ (k : Int) := by omega
      have t3 : (k : Int) < (n : Int) := by omega
      have d0 := I.on k hlt
      have d1 := I.vars k hlt
      have d2 := I.c k hlt
      have d3 := I.d k hlt
      have hA : Below wr.heap.size wr (wr.alloc (.cells #[.bool (X k).on, .slice (S k).a (X k).n (S k).cap, .int .i64 (X k).c, .int .i64 (X k).d] 77)) := (Below.refl _ _).alloc (Nat.le_refl _) _
      have dB := (I.bnds k hlt).next hA
      have hnk := hN k hlt
      clear hX I
      go_upto_region 4 with fail
      rw [hfvS.out]
      go_wp2_with fail
      refine (absOkI _ _ _ _ _ _ _ _ _ _ _ hnk dB).mono ?_
      rintro e w2 ⟨rfl, hb⟩
      replace hB := below_tr (below_tr hB hA) hb
      clear hb hA d0 d1 d2 d3 dB
      rw [show absOk (X k).on (X k).n (X k).lo (X k).hi (X k).c (X k).d = stOk (X k) from rfl]
      cases g : stOk (X k)
      · go_wp2_with fail
        go_ret
        exact ⟨ret_bool (by rw [stsOk_false hlt g]), hB⟩
      · have gS : Hid (stOk (X k) = true) := g
        clear g
        rw [← hfvS.out]
        go_wp2_with fail
        go_roundw
        case rel => exact ⟨k + 1, by omega, by go_num, (by simp only [stsOk, hO.out, gS.out, Bool.and_self] : _ = _), hB⟩
        case measure => simp [intOf]; omega
    · obtain rfl : k = n := by omega
      go_wp2_with fail
      go_ret
      exact ⟨ret_bool hO.out.symm, hB⟩
set_option maxHeartbeats 4000000 in
theorem allSumI (a : Option Addr) (b off n cap : Nat) (U : Nat → Sm) (w : World) (hn : n ≤ 1048576) (hX : SumsAt a b off n U w) :
    Calls Try.prog 51 #[.slice a n cap, .func (.func 52) #[] #[]] w fun e w' => e = .returned (.bool (smsOk U n)) ∧ Below w.heap.size w w' := by
  obtain ⟨fv, hfv⟩ : ∃ v, v = Value.func (.func 52) #[] #[] := ⟨_, rfl⟩
  rw [← hfv]
  have hfvS : Hid (fv = Value.func (.func 52) #[] #[]) := hfv
  clear hfv
  go_enter Try.func51, Try.ntmps51
  go_wp2_with fail
  go_loopw [9] (fun i wr => ∃ k : Nat, k ≤ n ∧ i = .int .i64 k ∧ Hid (smsOk U k = true) ∧ Below w.heap.size w wr) (fun i _ => n - (intOf i).toNat)
  case atStart => exact ⟨0, Nat.zero_le _, rfl, (rfl : _ = _), Below.refl _ _⟩
  case round =>
    obtain ⟨k, hk, rfl, hO, hB⟩ := hrel
    by_cases hlt : k < n
    · have I := hX.next hB
      have e1 := I.at_ (by omega)
      subst e1
      have t1 : ((k : Int)).toNat = k := by omega
      have t2 : (0 : Int) ≤ (k : Int) := by omega
      have t3 : (k : Int) < (n : Int) := by omega
      have d0 := I.f0 k hlt
      have d1 := I.f1 k hlt
      have d2 := I.f2 k hlt
      have hA : Below wr.heap.size wr (wr.alloc (.cells #[.bool (U k).on, .int .i64 (U k).lo, .int .i64 (U k).hi] 92)) := (Below.refl _ _).alloc (Nat.le_refl _) _
      clear hX I
      go_upto_region 4 with fail
      rw [hfvS.out]
      go_wp2_with fail
      refine (sumI (U k) _).mono ?_
      rintro e w2 ⟨rfl, hb⟩
      replace hB := below_tr (below_tr hB hA) hb
      clear hb hA d0 d1 d2
      cases g : smOk (U k)
      · go_wp2_with fail
        go_ret
        exact ⟨ret_bool (by rw [smsOk_false hlt g]), hB⟩
      · have gS : Hid (smOk (U k) = true) := g
        clear g
        rw [← hfvS.out]
        go_wp2_with fail
        go_roundw
        case rel => exact ⟨k + 1, by omega, by go_num, (by simp only [smsOk, hO.out, gS.out, Bool.and_self] : _ = _), hB⟩
        case measure => simp [intOf]; omega
    · obtain rfl : k = n := by omega
      go_wp2_with fail
      go_ret
      exact ⟨ret_bool hO.out.symm, hB⟩
/-- The model goes by both at once. -/
def crtTo (P : Nat → Proc) (z : Nat → Int) (R : Nat → Rw) (U : Nat → Sm) : Nat → Bool
  | 0 => true
  | k + 1 => crtTo P z R U k && (rowOk P z R k && smOk (U k))
theorem crtTo_eq (P : Nat → Proc) (z : Nat → Int) (R : Nat → Rw) (U : Nat → Sm) (n : Nat) : crtTo P z R U n = (rwsTo P z R n && smsOk U n) := by
  induction n with
  | zero => rfl
  | succ n ih =>
    simp only [crtTo, rwsTo, smsOk, ih]
    cases rwsTo P z R n <;> cases smsOk U n <;> cases rowOk P z R n <;> cases smOk (U n) <;> rfl
theorem crtTo_false {P : Nat → Proc} {z : Nat → Int} {R : Nat → Rw} {U : Nat → Sm} {k n : Nat} (h : k < n) (hk : (rowOk P z R k && smOk (U k)) = false) : crtTo P z R U n = false := by
  induction n with
  | zero => omega
  | succ n ih =>
    rcases (show k < n ∨ k = n by omega) with h' | rfl
    · simp [crtTo, ih h']
    · simp [crtTo, hk]
set_option maxRecDepth 10000 in
set_option maxHeartbeats 8000000 in
theorem crtOkS (a : Option Addr) (b off m cap : Nat) (P : Nat → Proc) (S : Nat → Spot) (a1 : Option Addr) (b1 off1 n cap1 : Nat) (z : Nat → Int) (a2 : Option Addr) (b2 off2 m2 cap2 : Nat) (R : Nat → Rw) (T : Nat → RSpot) (a3 : Option Addr) (b3 off3 n2 cap3 : Nat) (U : Nat → Sm) (w : World) (hm : m ≤ 1048576) (hN : ∀ i, i < m → (P i).n ≤ 1048576) (hn : n ≤ 1048576) (hm2 : m2 ≤ 1048576) (hR2 : ∀ i, i < m2 → (R i).n ≤ 1048576 ∧ ∀ j, j < (R i).n → ((R i).x j).n ≤ 1048576) (hn2 : n2 ≤ 1048576) (hP : ProcsAt a b off m P S w) (hZ : IntsAt a1 b1 off1 n z w) (hR : RowsAt a2 b2 off2 m2 R T w) (hU : SumsAt a3 b3 off3 n2 U w) :
    Calls Try.prog 10 #[.agg #[.slice a m cap], .slice a1 n cap1, .agg #[.slice a2 m2 cap2, .slice a3 n2 cap3]] w fun e w' => e = .returned (.bool (crtOk P m n z m2 R n2 U)) ∧ Below w.heap.size w w' := by
  have H : HeldL w [(w.heap.size + 1, [Value.slice a2 m2 cap2, .slice a3 n2 cap3]), (w.heap.size, [Value.slice a m cap])] ((w.alloc (.cells #[.slice a m cap] 35)).alloc (.cells #[.slice a2 m2 cap2, .slice a3 n2 cap3] 41)) := by
    have e1 : w.heap.size + 1 = (w.alloc (.cells #[.slice a m cap] 35)).heap.size := by simp
    rw [e1]
    exact HeldL.newL (vs := [Value.slice a2 m2 cap2, .slice a3 n2 cap3]) (HeldL.newL (vs := [Value.slice a m cap]) (HeldL.nil w))
  obtain ⟨Lb, hLb⟩ : ∃ L, L = [(w.heap.size + 1, [Value.slice a2 m2 cap2, .slice a3 n2 cap3]), (w.heap.size, [Value.slice a m cap])] := ⟨_, rfl⟩
  have mP : (w.heap.size, [Value.slice a m cap]) ∈ Lb := by rw [hLb]; simp
  have mC : (w.heap.size + 1, [Value.slice a2 m2 cap2, .slice a3 n2 cap3]) ∈ Lb := by rw [hLb]; simp
  rw [← hLb] at H
  clear hLb
  have J := hZ.next H.below
  have Q := hP.next H.below
  have hPw := hP
  clear hP
  go_enter Try.func10, Try.ntmps10
  go_wp2_with fail
  refine (partS _ _ _ _ _ _ _ _ _ _ _ _ _ _ hm hN hn Q J).mono ?_
  rintro e w1 ⟨rfl, hb⟩
  replace H := H.next hb
  clear hb Q J
  cases g : partOk P m n z
  · go_wp2_with fail
    go_ret
    exact ⟨ret_bool (by simp [crtOk, g]), H.below⟩
  have x0 := H.cell mC (i := 0) rfl
  have x1 := H.cell mC (i := 1) rfl
  dsimp only at x0 x1
  by_cases h1 : m2 = n
  case neg =>
    have h1' : ¬ (m2 : Int) = (n : Int) := by omega
    go_wp2_with fail
    go_ret
    exact ⟨ret_bool (by simp [crtOk, h1]), H.below⟩
  have h1b : ((m2 : Int) != (n : Int)) = false := by simp; omega
  by_cases h2 : n2 = n
  case neg =>
    have h2' : ¬ (n2 : Int) = (n : Int) := by omega
    have h1' : (m2 : Int) = (n : Int) := by omega
    go_wp2_with fail
    go_ret
    exact ⟨ret_bool (by simp [crtOk, h2]), H.below⟩
  subst h1 h2
  have g0 : 0 < n2 := by simp [partOk] at g; exact g.2.1
  have gz : ∀ k, k < n2 → ∃ q : Nat, q < m ∧ z k = (q : Int) := fun k hk => by
    simp [partOk] at g
    have := partTo_at hk g.2.2
    simp [partAt, placeB] at this
    exact ⟨(z k).toNat, by omega, by omega⟩
  have hRR : Hid (crtOk P m n2 z n2 R n2 U = (rwsTo P z R n2 && smsOk U n2)) := (by simp [crtOk, g] : _ = _)
  have ea := hPw.at_ (by obtain ⟨q, hq, _⟩ := gz 0 g0; omega)
  have ea1 := hZ.at_ g0
  have ea2 := hR.at_ g0
  have ea3 := hU.at_ g0
  clear g h1b
  subst ea ea1 ea2 ea3
  go_wp2_with fail
  clear x0 x1
  have hRS : Hid (crtOk P m n2 z n2 R n2 U = crtTo P z R U n2) := (by rw [hRR.out, crtTo_eq] : _ = _)
  clear hRR
  go_loopw [7] (fun i wr => ∃ k : Nat, k ≤ n2 ∧ i = .int .i64 k ∧ Hid (crtTo P z R U k = true) ∧ HeldL w Lb wr) (fun i _ => n2 - (intOf i).toNat)
  case atStart => exact ⟨0, Nat.zero_le _, rfl, (rfl : _ = _), H⟩
  case round =>
    clear H
    obtain ⟨k, hk, rfl, hO, H⟩ := hrel
    by_cases hlt : k < n2
    · have t1 : ((k : Int)).toNat = k := by omega
      have t2 : (0 : Int) ≤ (k : Int) := by omega
      have t3 : (k : Int) < (n2 : Int) := by omega
      obtain ⟨qk, hqm, hqk⟩ := gz k hlt
      have q1 : ((qk : Int)).toNat = qk := by omega
      have q2 : (0 : Int) ≤ (qk : Int) := by omega
      have q3 : (qk : Int) < (m : Int) := by omega
      have hzq : Hid ((z k).toNat = qk) := (by rw [hqk]; omega : _ = _)
      have hS0 : HX w wr Lb wr.drew := ⟨H.drew, (Below.refl _ wr).drew⟩
      clear H gz
      have hrow : Hid (rowOk P z R k = (decide ((R k).n = (P qk).n) && stsOk (R k).x (R k).n)) := (by simp only [rowOk, hzq.out] : _ = _)
      obtain ⟨q, hq'⟩ : ∃ q, (decide ((R k).n = (P qk).n) && stsOk (R k).x (R k).n) = q := ⟨_, rfl⟩
      have hq : Hid ((decide ((R k).n = (P qk).n) && stsOk (R k).x (R k).n) = q) := hq'
      clear hq'
      obtain ⟨p, hp'⟩ : ∃ p, smOk (U k) = p := ⟨_, rfl⟩
      have hp : Hid (smOk (U k) = p) := hp'
      clear hp'
      cases q
      · go_wp2_with fail
        refine region_inv3 [(0, 34), (1, 35), (2, 36), (3, 37), (4, 38), (5, 39), (6, 40), (7, 41), (8, 42), (9, 43), (10, 44), (11, 45), (12, 46), (13, 47), (14, 48), (15, 49), (16, 50), (17, 51), (18, 52), (19, 53), (20, 54), (21, 55), (22, 56), (23, 57), (24, 58), (25, 59)]
          (fun j v _ => match j with
            | 0 => Is (.pointer (some ⟨w.heap.size + 1, 0, none⟩)) v
            | 1 => Is (.slice (some ⟨b2, off2, none⟩) n2 cap2) v
            | 2 => Is (.int .i64 k) v
            | 3 => Is (.pointer (some ⟨b2, off2 + k, none⟩)) v
            | 4 => Is (.slice (T k).a (R k).n (T k).cap) v
            | 5 => Is (.pointer (some ⟨w.heap.size, 0, none⟩)) v
            | 6 => Is (.slice (some ⟨b, off, none⟩) m cap) v
            | 7 => Is (.slice (some ⟨b1, off1, none⟩) n2 cap1) v
            | 8 => Is (.int .i64 k) v
            | 9 => Is (.pointer (some ⟨b1, off1 + k, none⟩)) v
            | 10 => Is (.int .i64 qk) v
            | 11 => Is (.pointer (some ⟨b, off + qk * 3, none⟩)) v
            | 12 => Is (.pointer (some ⟨b, off + qk * 3 + 2, none⟩)) v
            | 13 => Is (.slice (S qk).a (P qk).n (S qk).cap) v
            | 14 => Is (.int .i64 (P qk).n) v
            | 15 => Is (.bool false) v
            | 16 => Is (.bool true) v
            | 17 => Is (.bool true) v
            | 18 => Is (undef) v
            | 19 => Is (undef) v
            | 20 => Is (undef) v
            | 21 => Is (undef) v
            | 22 => Is (undef) v
            | 23 => Is (undef) v
            | 24 => Is (undef) v
            | 25 => Is (.bool true) v
            | _ => True)
          (fun _ W => HX w wr Lb W) TT
          (by kernel_rfl) (by kernel_rfl) (by kernel_rfl) (by kernel_rfl) (by kernel_rfl) rfl hS0 (fun i j v W W' _ h _ => h) ?_ ?_
        · intro i L vals W hi' hφ hS hL hd
          have hi2 : i < 26 := hi'
          clear hi'
          rcases (show i = 0 ∨ i = 1 ∨ i = 2 ∨ i = 3 ∨ i = 4 ∨ i = 5 ∨ i = 6 ∨ i = 7 ∨ i = 8 ∨ i = 9 ∨ i = 10 ∨ i = 11 ∨ i = 12 ∨ i = 13 ∨ i = 14 ∨ i = 15 ∨ i = 16 ∨ i = 17 ∨ i = 18 ∨ i = 19 ∨ i = 20 ∨ i = 21 ∨ i = 22 ∨ i = 23 ∨ i = 24 ∨ i = 25 by omega) with rfl | rfl | rfl | rfl | rfl | rfl | rfl | rfl | rfl | rfl | rfl | rfl | rfl | rfl | rfl | rfl | rfl | rfl | rfl | rfl | rfl | rfl | rfl | rfl | rfl | rfl
          · refine wpAt_of rfl rfl ?_
            simp only [frOf, Act.put]
            go_wp2_with fail
            first | exact ⟨trivial, rfl, trivial, hS⟩ | exact ⟨rfl, trivial, hS⟩ | exact ⟨trivial, rfl, trivial⟩ | exact ⟨rfl, trivial⟩ | exact rfl
          · have k0 : vals 0 = .pointer (some ⟨w.heap.size + 1, 0, none⟩) := hφ 0 (hd 0 (by decide))
            have c0 := hS.cell mC (i := 0) rfl
            dsimp only at c0
            refine wpAt_of rfl rfl ?_
            simp only [frOf, Act.put]
            go_wp2_with fail
            first | exact ⟨trivial, rfl, trivial, hS⟩ | exact ⟨rfl, trivial, hS⟩ | exact ⟨trivial, rfl, trivial⟩ | exact ⟨rfl, trivial⟩ | exact rfl
          · refine wpAt_of rfl rfl ?_
            simp only [frOf, Act.put]
            go_wp2_with fail
            first | exact ⟨trivial, rfl, trivial, hS⟩ | exact ⟨rfl, trivial, hS⟩ | exact ⟨trivial, rfl, trivial⟩ | exact ⟨rfl, trivial⟩ | exact rfl
          · have k1 : vals 1 = .slice (some ⟨b2, off2, none⟩) n2 cap2 := hφ 1 (hd 1 (by decide))
            have k2 : vals 2 = .int .i64 k := hφ 2 (hd 2 (by decide))
            refine wpAt_of rfl rfl ?_
            simp only [frOf, Act.put]
            go_wp2_with fail
            first | exact ⟨trivial, rfl, trivial, hS⟩ | exact ⟨rfl, trivial, hS⟩ | exact ⟨trivial, rfl, trivial⟩ | exact ⟨rfl, trivial⟩ | exact rfl
          · have k3 : vals 3 = .pointer (some ⟨b2, off2 + k, none⟩) := hφ 3 (hd 3 (by decide))
            have d0 := (hR.next hS.below).cell k hlt
            refine wpAt_of rfl rfl ?_
            simp only [frOf, Act.put]
            go_wp2_with fail
            first | exact ⟨trivial, rfl, trivial, hS⟩ | exact ⟨rfl, trivial, hS⟩ | exact ⟨trivial, rfl, trivial⟩ | exact ⟨rfl, trivial⟩ | exact rfl
          · refine wpAt_of rfl rfl ?_
            simp only [frOf, Act.put]
            go_wp2_with fail
            first | exact ⟨trivial, rfl, trivial, hS⟩ | exact ⟨rfl, trivial, hS⟩ | exact ⟨trivial, rfl, trivial⟩ | exact ⟨rfl, trivial⟩ | exact rfl
          · have k5 : vals 5 = .pointer (some ⟨w.heap.size, 0, none⟩) := hφ 5 (hd 5 (by decide))
            have c0 := hS.cell mP (i := 0) rfl
            dsimp only at c0
            refine wpAt_of rfl rfl ?_
            simp only [frOf, Act.put]
            go_wp2_with fail
            first | exact ⟨trivial, rfl, trivial, hS⟩ | exact ⟨rfl, trivial, hS⟩ | exact ⟨trivial, rfl, trivial⟩ | exact ⟨rfl, trivial⟩ | exact rfl
          · refine wpAt_of rfl rfl ?_
            simp only [frOf, Act.put]
            go_wp2_with fail
            first | exact ⟨trivial, rfl, trivial, hS⟩ | exact ⟨rfl, trivial, hS⟩ | exact ⟨trivial, rfl, trivial⟩ | exact ⟨rfl, trivial⟩ | exact rfl
          · refine wpAt_of rfl rfl ?_
            simp only [frOf, Act.put]
            go_wp2_with fail
            first | exact ⟨trivial, rfl, trivial, hS⟩ | exact ⟨rfl, trivial, hS⟩ | exact ⟨trivial, rfl, trivial⟩ | exact ⟨rfl, trivial⟩ | exact rfl
          · have k7 : vals 7 = .slice (some ⟨b1, off1, none⟩) n2 cap1 := hφ 7 (hd 7 (by decide))
            have k8 : vals 8 = .int .i64 k := hφ 8 (hd 8 (by decide))
            refine wpAt_of rfl rfl ?_
            simp only [frOf, Act.put]
            go_wp2_with fail
            first | exact ⟨trivial, rfl, trivial, hS⟩ | exact ⟨rfl, trivial, hS⟩ | exact ⟨trivial, rfl, trivial⟩ | exact ⟨rfl, trivial⟩ | exact rfl
          · have k9 : vals 9 = .pointer (some ⟨b1, off1 + k, none⟩) := hφ 9 (hd 9 (by decide))
            have d0 := (hZ.next hS.below).cell k hlt
            rw [hqk] at d0
            refine wpAt_of rfl rfl ?_
            simp only [frOf, Act.put]
            go_wp2_with fail
            first | exact ⟨trivial, rfl, trivial, hS⟩ | exact ⟨rfl, trivial, hS⟩ | exact ⟨trivial, rfl, trivial⟩ | exact ⟨rfl, trivial⟩ | exact rfl
          · have k6 : vals 6 = .slice (some ⟨b, off, none⟩) m cap := hφ 6 (hd 6 (by decide))
            have k10 : vals 10 = .int .i64 qk := hφ 10 (hd 10 (by decide))
            refine wpAt_of rfl rfl ?_
            simp only [frOf, Act.put]
            go_wp2_with fail
            first | exact ⟨trivial, rfl, trivial, hS⟩ | exact ⟨rfl, trivial, hS⟩ | exact ⟨trivial, rfl, trivial⟩ | exact ⟨rfl, trivial⟩ | exact rfl
          · have k11 : vals 11 = .pointer (some ⟨b, off + qk * 3, none⟩) := hφ 11 (hd 11 (by decide))
            refine wpAt_of rfl rfl ?_
            simp only [frOf, Act.put]
            go_wp2_with fail
            first | exact ⟨trivial, rfl, trivial, hS⟩ | exact ⟨rfl, trivial, hS⟩ | exact ⟨trivial, rfl, trivial⟩ | exact ⟨rfl, trivial⟩ | exact rfl
          · have k12 : vals 12 = .pointer (some ⟨b, off + qk * 3 + 2, none⟩) := hφ 12 (hd 12 (by decide))
            have d0 := (hPw.next hS.below).code qk hqm
            refine wpAt_of rfl rfl ?_
            simp only [frOf, Act.put]
            go_wp2_with fail
            first | exact ⟨trivial, rfl, trivial, hS⟩ | exact ⟨rfl, trivial, hS⟩ | exact ⟨trivial, rfl, trivial⟩ | exact ⟨rfl, trivial⟩ | exact rfl
          · have k13 : vals 13 = .slice (S qk).a (P qk).n (S qk).cap := hφ 13 (hd 13 (by decide))
            refine wpAt_of rfl rfl ?_
            simp only [frOf, Act.put]
            go_wp2_with fail
            first | exact ⟨trivial, rfl, trivial, hS⟩ | exact ⟨rfl, trivial, hS⟩ | exact ⟨trivial, rfl, trivial⟩ | exact ⟨rfl, trivial⟩ | exact rfl
          · have k4 : vals 4 = .slice (T k).a (R k).n (T k).cap := hφ 4 (hd 4 (by decide))
            have k14 : vals 14 = .int .i64 (P qk).n := hφ 14 (hd 14 (by decide))
            refine wpAt_of rfl rfl ?_
            simp only [frOf, Act.put]
            go_wp2_with fail
            refine (rowS _ _ _ _ _ _ _ _ _ (hR2 k hlt).1 ((hR.next hS.below).row k hlt)).mono ?_
            rintro e W' ⟨rfl, hb⟩
            rw [hq.out]
            go_wp2_with fail
            first | exact ⟨trivial, rfl, trivial, HX.next hb hS⟩ | exact ⟨rfl, trivial, HX.next hb hS⟩ | exact ⟨trivial, rfl, trivial⟩ | exact ⟨rfl, trivial⟩ | exact rfl
          · have k15 : vals 15 = .bool false := hφ 15 (hd 15 (by decide))
            refine wpAt_of rfl rfl ?_
            simp only [frOf, Act.put]
            go_wp2_with fail
            first | exact ⟨trivial, rfl, trivial, hS⟩ | exact ⟨rfl, trivial, hS⟩ | exact ⟨trivial, rfl, trivial⟩ | exact ⟨rfl, trivial⟩ | exact rfl
          · have k16 : vals 16 = .bool true := hφ 16 (hd 16 (by decide))
            refine wpAt_of rfl rfl ?_
            simp only [frOf, Act.put]
            go_wp2_with fail
            first | exact ⟨trivial, rfl, trivial, hS⟩ | exact ⟨rfl, trivial, hS⟩ | exact ⟨trivial, rfl, trivial⟩ | exact ⟨rfl, trivial⟩ | exact rfl
          · have k17 : vals 17 = .bool true := hφ 17 (hd 17 (by decide))
            simp only [wpAt, List.getElem?_toArray, List.getElem?_cons_succ, List.getElem?_cons_zero, slotOf, frOf, Act.put]
            go_wp2_with fail
            first | exact ⟨trivial, rfl, trivial, hS⟩ | exact ⟨rfl, trivial, hS⟩ | exact ⟨trivial, rfl, trivial⟩ | exact ⟨rfl, trivial⟩ | exact rfl
          · have k17 : vals 17 = .bool true := hφ 17 (hd 17 (by decide))
            have k18 : vals 18 = undef := hφ 18 (hd 18 (by decide))
            simp only [wpAt, List.getElem?_toArray, List.getElem?_cons_succ, List.getElem?_cons_zero, slotOf, frOf, Act.put]
            go_wp2_with fail
            first | exact ⟨trivial, rfl, trivial, hS⟩ | exact ⟨rfl, trivial, hS⟩ | exact ⟨trivial, rfl, trivial⟩ | exact ⟨rfl, trivial⟩ | exact rfl
          · have k17 : vals 17 = .bool true := hφ 17 (hd 17 (by decide))
            simp only [wpAt, List.getElem?_toArray, List.getElem?_cons_succ, List.getElem?_cons_zero, slotOf, frOf, Act.put]
            go_wp2_with fail
            first | exact ⟨trivial, rfl, trivial, hS⟩ | exact ⟨rfl, trivial, hS⟩ | exact ⟨trivial, rfl, trivial⟩ | exact ⟨rfl, trivial⟩ | exact rfl
          · have k17 : vals 17 = .bool true := hφ 17 (hd 17 (by decide))
            have k19 : vals 19 = undef := hφ 19 (hd 19 (by decide))
            have k20 : vals 20 = undef := hφ 20 (hd 20 (by decide))
            simp only [wpAt, List.getElem?_toArray, List.getElem?_cons_succ, List.getElem?_cons_zero, slotOf, frOf, Act.put]
            go_wp2_with fail
            first | exact ⟨trivial, rfl, trivial, hS⟩ | exact ⟨rfl, trivial, hS⟩ | exact ⟨trivial, rfl, trivial⟩ | exact ⟨rfl, trivial⟩ | exact rfl
          · have k17 : vals 17 = .bool true := hφ 17 (hd 17 (by decide))
            have k21 : vals 21 = undef := hφ 21 (hd 21 (by decide))
            simp only [wpAt, List.getElem?_toArray, List.getElem?_cons_succ, List.getElem?_cons_zero, slotOf, frOf, Act.put]
            go_wp2_with fail
            first | exact ⟨trivial, rfl, trivial, hS⟩ | exact ⟨rfl, trivial, hS⟩ | exact ⟨trivial, rfl, trivial⟩ | exact ⟨rfl, trivial⟩ | exact rfl
          · have k17 : vals 17 = .bool true := hφ 17 (hd 17 (by decide))
            have k22 : vals 22 = undef := hφ 22 (hd 22 (by decide))
            simp only [wpAt, List.getElem?_toArray, List.getElem?_cons_succ, List.getElem?_cons_zero, slotOf, frOf, Act.put]
            go_wp2_with fail
            first | exact ⟨trivial, rfl, trivial, hS⟩ | exact ⟨rfl, trivial, hS⟩ | exact ⟨trivial, rfl, trivial⟩ | exact ⟨rfl, trivial⟩ | exact rfl
          · have k17 : vals 17 = .bool true := hφ 17 (hd 17 (by decide))
            have k23 : vals 23 = undef := hφ 23 (hd 23 (by decide))
            simp only [wpAt, List.getElem?_toArray, List.getElem?_cons_succ, List.getElem?_cons_zero, slotOf, frOf, Act.put]
            go_wp2_with fail
            first | exact ⟨trivial, rfl, trivial, hS⟩ | exact ⟨rfl, trivial, hS⟩ | exact ⟨trivial, rfl, trivial⟩ | exact ⟨rfl, trivial⟩ | exact rfl
          · have k17 : vals 17 = .bool true := hφ 17 (hd 17 (by decide))
            have k24 : vals 24 = undef := hφ 24 (hd 24 (by decide))
            refine wpAt_of rfl rfl ?_
            simp only [frOf, Act.put]
            go_wp2_with fail
            first | exact ⟨trivial, rfl, trivial, hS⟩ | exact ⟨rfl, trivial, hS⟩ | exact ⟨trivial, rfl, trivial⟩ | exact ⟨rfl, trivial⟩ | exact rfl
        · intro L vals W hall hφ hS
          have k0 : vals 0 = .pointer (some ⟨w.heap.size + 1, 0, none⟩) := hφ 0 (by decide)
          have k1 : vals 1 = .slice (some ⟨b2, off2, none⟩) n2 cap2 := hφ 1 (by decide)
          have k2 : vals 2 = .int .i64 k := hφ 2 (by decide)
          have k3 : vals 3 = .pointer (some ⟨b2, off2 + k, none⟩) := hφ 3 (by decide)
          have k4 : vals 4 = .slice (T k).a (R k).n (T k).cap := hφ 4 (by decide)
          have k5 : vals 5 = .pointer (some ⟨w.heap.size, 0, none⟩) := hφ 5 (by decide)
          have k6 : vals 6 = .slice (some ⟨b, off, none⟩) m cap := hφ 6 (by decide)
          have k7 : vals 7 = .slice (some ⟨b1, off1, none⟩) n2 cap1 := hφ 7 (by decide)
          have k8 : vals 8 = .int .i64 k := hφ 8 (by decide)
          have k9 : vals 9 = .pointer (some ⟨b1, off1 + k, none⟩) := hφ 9 (by decide)
          have k10 : vals 10 = .int .i64 qk := hφ 10 (by decide)
          have k11 : vals 11 = .pointer (some ⟨b, off + qk * 3, none⟩) := hφ 11 (by decide)
          have k12 : vals 12 = .pointer (some ⟨b, off + qk * 3 + 2, none⟩) := hφ 12 (by decide)
          have k13 : vals 13 = .slice (S qk).a (P qk).n (S qk).cap := hφ 13 (by decide)
          have k14 : vals 14 = .int .i64 (P qk).n := hφ 14 (by decide)
          have k15 : vals 15 = .bool false := hφ 15 (by decide)
          have k16 : vals 16 = .bool true := hφ 16 (by decide)
          have k17 : vals 17 = .bool true := hφ 17 (by decide)
          have k18 : vals 18 = undef := hφ 18 (by decide)
          have k19 : vals 19 = undef := hφ 19 (by decide)
          have k20 : vals 20 = undef := hφ 20 (by decide)
          have k21 : vals 21 = undef := hφ 21 (by decide)
          have k22 : vals 22 = undef := hφ 22 (by decide)
          have k23 : vals 23 = undef := hφ 23 (by decide)
          have k24 : vals 24 = undef := hφ 24 (by decide)
          have k25 : vals 25 = .bool true := hφ 25 (by decide)
          simp only [frOf, Act.put, List.setIfInBounds_toArray, List.set_cons_succ, List.set_cons_zero, k0, k1, k2, k3, k4, k5, k6, k7, k8, k9, k10, k11, k12, k13, k14, k15, k16, k17, k18, k19, k20, k21, k22, k23, k24, k25]
          clear k0 k1 k2 k3 k4 k5 k6 k7 k8 k9 k10 k11 k12 k13 k14 k15 k16 k17 k18 k19 k20 k21 k22 k23 k24 k25 hall hφ hS0
          have H := hS.1
          clear hS
          go_wp2_with fail
          go_ret
          exact ⟨ret_bool (by rw [hRS.out, crtTo_false hlt (by rw [hrow.out, hq.out]; rfl)]), H.below⟩
      · go_wp2_with fail
        refine region_inv3 [(0, 34), (1, 35), (2, 36), (3, 37), (4, 38), (5, 39), (6, 40), (7, 41), (8, 42), (9, 43), (10, 44), (11, 45), (12, 46), (13, 47), (14, 48), (15, 49), (16, 50), (17, 51), (18, 52), (19, 53), (20, 54), (21, 55), (22, 56), (23, 57), (24, 58), (25, 59)]
          (fun j v _ => match j with
            | 0 => Is (.pointer (some ⟨w.heap.size + 1, 0, none⟩)) v
            | 1 => Is (.slice (some ⟨b2, off2, none⟩) n2 cap2) v
            | 2 => Is (.int .i64 k) v
            | 3 => Is (.pointer (some ⟨b2, off2 + k, none⟩)) v
            | 4 => Is (.slice (T k).a (R k).n (T k).cap) v
            | 5 => Is (.pointer (some ⟨w.heap.size, 0, none⟩)) v
            | 6 => Is (.slice (some ⟨b, off, none⟩) m cap) v
            | 7 => Is (.slice (some ⟨b1, off1, none⟩) n2 cap1) v
            | 8 => Is (.int .i64 k) v
            | 9 => Is (.pointer (some ⟨b1, off1 + k, none⟩)) v
            | 10 => Is (.int .i64 qk) v
            | 11 => Is (.pointer (some ⟨b, off + qk * 3, none⟩)) v
            | 12 => Is (.pointer (some ⟨b, off + qk * 3 + 2, none⟩)) v
            | 13 => Is (.slice (S qk).a (P qk).n (S qk).cap) v
            | 14 => Is (.int .i64 (P qk).n) v
            | 15 => Is (.bool true) v
            | 16 => Is (.bool false) v
            | 17 => Is (.bool false) v
            | 18 => Is (.pointer (some ⟨w.heap.size + 1, 1, none⟩)) v
            | 19 => Is (.slice (some ⟨b3, off3, none⟩) n2 cap3) v
            | 20 => Is (.int .i64 k) v
            | 21 => Is (.pointer (some ⟨b3, off3 + k * 3, none⟩)) v
            | 22 => Is (.agg #[.bool (U k).on, .int .i64 (U k).lo, .int .i64 (U k).hi]) v
            | 23 => Is (.bool p) v
            | 24 => Is (.bool !p) v
            | 25 => Is (.bool !p) v
            | _ => True)
          (fun _ W => HX w wr Lb W) TT
          (by kernel_rfl) (by kernel_rfl) (by kernel_rfl) (by kernel_rfl) (by kernel_rfl) rfl hS0 (fun i j v W W' _ h _ => h) ?_ ?_
        · intro i L vals W hi' hφ hS hL hd
          have hi2 : i < 26 := hi'
          clear hi'
          rcases (show i = 0 ∨ i = 1 ∨ i = 2 ∨ i = 3 ∨ i = 4 ∨ i = 5 ∨ i = 6 ∨ i = 7 ∨ i = 8 ∨ i = 9 ∨ i = 10 ∨ i = 11 ∨ i = 12 ∨ i = 13 ∨ i = 14 ∨ i = 15 ∨ i = 16 ∨ i = 17 ∨ i = 18 ∨ i = 19 ∨ i = 20 ∨ i = 21 ∨ i = 22 ∨ i = 23 ∨ i = 24 ∨ i = 25 by omega) with rfl | rfl | rfl | rfl | rfl | rfl | rfl | rfl | rfl | rfl | rfl | rfl | rfl | rfl | rfl | rfl | rfl | rfl | rfl | rfl | rfl | rfl | rfl | rfl | rfl | rfl
          · refine wpAt_of rfl rfl ?_
            simp only [frOf, Act.put]
            go_wp2_with fail
            first | exact ⟨trivial, rfl, trivial, hS⟩ | exact ⟨rfl, trivial, hS⟩ | exact ⟨trivial, rfl, trivial⟩ | exact ⟨rfl, trivial⟩ | exact rfl
          · have k0 : vals 0 = .pointer (some ⟨w.heap.size + 1, 0, none⟩) := hφ 0 (hd 0 (by decide))
            have c0 := hS.cell mC (i := 0) rfl
            dsimp only at c0
            refine wpAt_of rfl rfl ?_
            simp only [frOf, Act.put]
            go_wp2_with fail
            first | exact ⟨trivial, rfl, trivial, hS⟩ | exact ⟨rfl, trivial, hS⟩ | exact ⟨trivial, rfl, trivial⟩ | exact ⟨rfl, trivial⟩ | exact rfl
          · refine wpAt_of rfl rfl ?_
            simp only [frOf, Act.put]
            go_wp2_with fail
            first | exact ⟨trivial, rfl, trivial, hS⟩ | exact ⟨rfl, trivial, hS⟩ | exact ⟨trivial, rfl, trivial⟩ | exact ⟨rfl, trivial⟩ | exact rfl
          · have k1 : vals 1 = .slice (some ⟨b2, off2, none⟩) n2 cap2 := hφ 1 (hd 1 (by decide))
            have k2 : vals 2 = .int .i64 k := hφ 2 (hd 2 (by decide))
            refine wpAt_of rfl rfl ?_
            simp only [frOf, Act.put]
            go_wp2_with fail
            first | exact ⟨trivial, rfl, trivial, hS⟩ | exact ⟨rfl, trivial, hS⟩ | exact ⟨trivial, rfl, trivial⟩ | exact ⟨rfl, trivial⟩ | exact rfl
          · have k3 : vals 3 = .pointer (some ⟨b2, off2 + k, none⟩) := hφ 3 (hd 3 (by decide))
            have d0 := (hR.next hS.below).cell k hlt
            refine wpAt_of rfl rfl ?_
            simp only [frOf, Act.put]
            go_wp2_with fail
            first | exact ⟨trivial, rfl, trivial, hS⟩ | exact ⟨rfl, trivial, hS⟩ | exact ⟨trivial, rfl, trivial⟩ | exact ⟨rfl, trivial⟩ | exact rfl
          · refine wpAt_of rfl rfl ?_
            simp only [frOf, Act.put]
            go_wp2_with fail
            first | exact ⟨trivial, rfl, trivial, hS⟩ | exact ⟨rfl, trivial, hS⟩ | exact ⟨trivial, rfl, trivial⟩ | exact ⟨rfl, trivial⟩ | exact rfl
          · have k5 : vals 5 = .pointer (some ⟨w.heap.size, 0, none⟩) := hφ 5 (hd 5 (by decide))
            have c0 := hS.cell mP (i := 0) rfl
            dsimp only at c0
            refine wpAt_of rfl rfl ?_
            simp only [frOf, Act.put]
            go_wp2_with fail
            first | exact ⟨trivial, rfl, trivial, hS⟩ | exact ⟨rfl, trivial, hS⟩ | exact ⟨trivial, rfl, trivial⟩ | exact ⟨rfl, trivial⟩ | exact rfl
          · refine wpAt_of rfl rfl ?_
            simp only [frOf, Act.put]
            go_wp2_with fail
            first | exact ⟨trivial, rfl, trivial, hS⟩ | exact ⟨rfl, trivial, hS⟩ | exact ⟨trivial, rfl, trivial⟩ | exact ⟨rfl, trivial⟩ | exact rfl
          · refine wpAt_of rfl rfl ?_
            simp only [frOf, Act.put]
            go_wp2_with fail
            first | exact ⟨trivial, rfl, trivial, hS⟩ | exact ⟨rfl, trivial, hS⟩ | exact ⟨trivial, rfl, trivial⟩ | exact ⟨rfl, trivial⟩ | exact rfl
          · have k7 : vals 7 = .slice (some ⟨b1, off1, none⟩) n2 cap1 := hφ 7 (hd 7 (by decide))
            have k8 : vals 8 = .int .i64 k := hφ 8 (hd 8 (by decide))
            refine wpAt_of rfl rfl ?_
            simp only [frOf, Act.put]
            go_wp2_with fail
            first | exact ⟨trivial, rfl, trivial, hS⟩ | exact ⟨rfl, trivial, hS⟩ | exact ⟨trivial, rfl, trivial⟩ | exact ⟨rfl, trivial⟩ | exact rfl
          · have k9 : vals 9 = .pointer (some ⟨b1, off1 + k, none⟩) := hφ 9 (hd 9 (by decide))
            have d0 := (hZ.next hS.below).cell k hlt
            rw [hqk] at d0
            refine wpAt_of rfl rfl ?_
            simp only [frOf, Act.put]
            go_wp2_with fail
            first | exact ⟨trivial, rfl, trivial, hS⟩ | exact ⟨rfl, trivial, hS⟩ | exact ⟨trivial, rfl, trivial⟩ | exact ⟨rfl, trivial⟩ | exact rfl
          · have k6 : vals 6 = .slice (some ⟨b, off, none⟩) m cap := hφ 6 (hd 6 (by decide))
            have k10 : vals 10 = .int .i64 qk := hφ 10 (hd 10 (by decide))
            refine wpAt_of rfl rfl ?_
            simp only [frOf, Act.put]
            go_wp2_with fail
            first | exact ⟨trivial, rfl, trivial, hS⟩ | exact ⟨rfl, trivial, hS⟩ | exact ⟨trivial, rfl, trivial⟩ | exact ⟨rfl, trivial⟩ | exact rfl
          · have k11 : vals 11 = .pointer (some ⟨b, off + qk * 3, none⟩) := hφ 11 (hd 11 (by decide))
            refine wpAt_of rfl rfl ?_
            simp only [frOf, Act.put]
            go_wp2_with fail
            first | exact ⟨trivial, rfl, trivial, hS⟩ | exact ⟨rfl, trivial, hS⟩ | exact ⟨trivial, rfl, trivial⟩ | exact ⟨rfl, trivial⟩ | exact rfl
          · have k12 : vals 12 = .pointer (some ⟨b, off + qk * 3 + 2, none⟩) := hφ 12 (hd 12 (by decide))
            have d0 := (hPw.next hS.below).code qk hqm
            refine wpAt_of rfl rfl ?_
            simp only [frOf, Act.put]
            go_wp2_with fail
            first | exact ⟨trivial, rfl, trivial, hS⟩ | exact ⟨rfl, trivial, hS⟩ | exact ⟨trivial, rfl, trivial⟩ | exact ⟨rfl, trivial⟩ | exact rfl
          · have k13 : vals 13 = .slice (S qk).a (P qk).n (S qk).cap := hφ 13 (hd 13 (by decide))
            refine wpAt_of rfl rfl ?_
            simp only [frOf, Act.put]
            go_wp2_with fail
            first | exact ⟨trivial, rfl, trivial, hS⟩ | exact ⟨rfl, trivial, hS⟩ | exact ⟨trivial, rfl, trivial⟩ | exact ⟨rfl, trivial⟩ | exact rfl
          · have k4 : vals 4 = .slice (T k).a (R k).n (T k).cap := hφ 4 (hd 4 (by decide))
            have k14 : vals 14 = .int .i64 (P qk).n := hφ 14 (hd 14 (by decide))
            refine wpAt_of rfl rfl ?_
            simp only [frOf, Act.put]
            go_wp2_with fail
            refine (rowS _ _ _ _ _ _ _ _ _ (hR2 k hlt).1 ((hR.next hS.below).row k hlt)).mono ?_
            rintro e W' ⟨rfl, hb⟩
            rw [hq.out]
            go_wp2_with fail
            first | exact ⟨trivial, rfl, trivial, HX.next hb hS⟩ | exact ⟨rfl, trivial, HX.next hb hS⟩ | exact ⟨trivial, rfl, trivial⟩ | exact ⟨rfl, trivial⟩ | exact rfl
          · have k15 : vals 15 = .bool true := hφ 15 (hd 15 (by decide))
            refine wpAt_of rfl rfl ?_
            simp only [frOf, Act.put]
            go_wp2_with fail
            first | exact ⟨trivial, rfl, trivial, hS⟩ | exact ⟨rfl, trivial, hS⟩ | exact ⟨trivial, rfl, trivial⟩ | exact ⟨rfl, trivial⟩ | exact rfl
          · have k16 : vals 16 = .bool false := hφ 16 (hd 16 (by decide))
            refine wpAt_of rfl rfl ?_
            simp only [frOf, Act.put]
            go_wp2_with fail
            first | exact ⟨trivial, rfl, trivial, hS⟩ | exact ⟨rfl, trivial, hS⟩ | exact ⟨trivial, rfl, trivial⟩ | exact ⟨rfl, trivial⟩ | exact rfl
          · have k17 : vals 17 = .bool false := hφ 17 (hd 17 (by decide))
            simp only [wpAt, List.getElem?_toArray, List.getElem?_cons_succ, List.getElem?_cons_zero, slotOf, frOf, Act.put]
            go_wp2_with fail
            first | exact ⟨trivial, rfl, trivial, hS⟩ | exact ⟨rfl, trivial, hS⟩ | exact ⟨trivial, rfl, trivial⟩ | exact ⟨rfl, trivial⟩ | exact rfl
          · have k17 : vals 17 = .bool false := hφ 17 (hd 17 (by decide))
            have k18 : vals 18 = .pointer (some ⟨w.heap.size + 1, 1, none⟩) := hφ 18 (hd 18 (by decide))
            have c1 := hS.cell mC (i := 1) rfl
            dsimp only at c1
            simp only [wpAt, List.getElem?_toArray, List.getElem?_cons_succ, List.getElem?_cons_zero, slotOf, frOf, Act.put]
            go_wp2_with fail
            first | exact ⟨trivial, rfl, trivial, hS⟩ | exact ⟨rfl, trivial, hS⟩ | exact ⟨trivial, rfl, trivial⟩ | exact ⟨rfl, trivial⟩ | exact rfl
          · have k17 : vals 17 = .bool false := hφ 17 (hd 17 (by decide))
            simp only [wpAt, List.getElem?_toArray, List.getElem?_cons_succ, List.getElem?_cons_zero, slotOf, frOf, Act.put]
            go_wp2_with fail
            first | exact ⟨trivial, rfl, trivial, hS⟩ | exact ⟨rfl, trivial, hS⟩ | exact ⟨trivial, rfl, trivial⟩ | exact ⟨rfl, trivial⟩ | exact rfl
          · have k17 : vals 17 = .bool false := hφ 17 (hd 17 (by decide))
            have k19 : vals 19 = .slice (some ⟨b3, off3, none⟩) n2 cap3 := hφ 19 (hd 19 (by decide))
            have k20 : vals 20 = .int .i64 k := hφ 20 (hd 20 (by decide))
            simp only [wpAt, List.getElem?_toArray, List.getElem?_cons_succ, List.getElem?_cons_zero, slotOf, frOf, Act.put]
            go_wp2_with fail
            first | exact ⟨trivial, rfl, trivial, hS⟩ | exact ⟨rfl, trivial, hS⟩ | exact ⟨trivial, rfl, trivial⟩ | exact ⟨rfl, trivial⟩ | exact rfl
          · have k17 : vals 17 = .bool false := hφ 17 (hd 17 (by decide))
            have k21 : vals 21 = .pointer (some ⟨b3, off3 + k * 3, none⟩) := hφ 21 (hd 21 (by decide))
            have dd := hU.next hS.below
            have d0 := dd.f0 k hlt
            have d1 := dd.f1 k hlt
            have d2 := dd.f2 k hlt
            clear dd
            simp only [wpAt, List.getElem?_toArray, List.getElem?_cons_succ, List.getElem?_cons_zero, slotOf, frOf, Act.put]
            go_wp2_with fail
            first | exact ⟨trivial, rfl, trivial, hS⟩ | exact ⟨rfl, trivial, hS⟩ | exact ⟨trivial, rfl, trivial⟩ | exact ⟨rfl, trivial⟩ | exact rfl
          · have k17 : vals 17 = .bool false := hφ 17 (hd 17 (by decide))
            have k22 : vals 22 = .agg #[.bool (U k).on, .int .i64 (U k).lo, .int .i64 (U k).hi] := hφ 22 (hd 22 (by decide))
            simp only [wpAt, List.getElem?_toArray, List.getElem?_cons_succ, List.getElem?_cons_zero, slotOf, frOf, Act.put]
            go_wp2_with fail
            refine (sumS (U k) _).mono ?_
            rintro e W' ⟨rfl, hb⟩
            rw [hp.out]
            go_wp2_with fail
            first | exact ⟨trivial, rfl, trivial, HX.next hb hS⟩ | exact ⟨rfl, trivial, HX.next hb hS⟩ | exact ⟨trivial, rfl, trivial⟩ | exact ⟨rfl, trivial⟩ | exact rfl
          · have k17 : vals 17 = .bool false := hφ 17 (hd 17 (by decide))
            have k23 : vals 23 = .bool p := hφ 23 (hd 23 (by decide))
            simp only [wpAt, List.getElem?_toArray, List.getElem?_cons_succ, List.getElem?_cons_zero, slotOf, frOf, Act.put]
            go_wp2_with fail
            first | exact ⟨trivial, rfl, trivial, hS⟩ | exact ⟨rfl, trivial, hS⟩ | exact ⟨trivial, rfl, trivial⟩ | exact ⟨rfl, trivial⟩ | exact rfl
          · have k17 : vals 17 = .bool false := hφ 17 (hd 17 (by decide))
            have k24 : vals 24 = .bool !p := hφ 24 (hd 24 (by decide))
            refine wpAt_of rfl rfl ?_
            simp only [frOf, Act.put]
            go_wp2_with fail
            first | exact ⟨trivial, rfl, trivial, hS⟩ | exact ⟨rfl, trivial, hS⟩ | exact ⟨trivial, rfl, trivial⟩ | exact ⟨rfl, trivial⟩ | exact rfl
        · intro L vals W hall hφ hS
          have k0 : vals 0 = .pointer (some ⟨w.heap.size + 1, 0, none⟩) := hφ 0 (by decide)
          have k1 : vals 1 = .slice (some ⟨b2, off2, none⟩) n2 cap2 := hφ 1 (by decide)
          have k2 : vals 2 = .int .i64 k := hφ 2 (by decide)
          have k3 : vals 3 = .pointer (some ⟨b2, off2 + k, none⟩) := hφ 3 (by decide)
          have k4 : vals 4 = .slice (T k).a (R k).n (T k).cap := hφ 4 (by decide)
          have k5 : vals 5 = .pointer (some ⟨w.heap.size, 0, none⟩) := hφ 5 (by decide)
          have k6 : vals 6 = .slice (some ⟨b, off, none⟩) m cap := hφ 6 (by decide)
          have k7 : vals 7 = .slice (some ⟨b1, off1, none⟩) n2 cap1 := hφ 7 (by decide)
          have k8 : vals 8 = .int .i64 k := hφ 8 (by decide)
          have k9 : vals 9 = .pointer (some ⟨b1, off1 + k, none⟩) := hφ 9 (by decide)
          have k10 : vals 10 = .int .i64 qk := hφ 10 (by decide)
          have k11 : vals 11 = .pointer (some ⟨b, off + qk * 3, none⟩) := hφ 11 (by decide)
          have k12 : vals 12 = .pointer (some ⟨b, off + qk * 3 + 2, none⟩) := hφ 12 (by decide)
          have k13 : vals 13 = .slice (S qk).a (P qk).n (S qk).cap := hφ 13 (by decide)
          have k14 : vals 14 = .int .i64 (P qk).n := hφ 14 (by decide)
          have k15 : vals 15 = .bool true := hφ 15 (by decide)
          have k16 : vals 16 = .bool false := hφ 16 (by decide)
          have k17 : vals 17 = .bool false := hφ 17 (by decide)
          have k18 : vals 18 = .pointer (some ⟨w.heap.size + 1, 1, none⟩) := hφ 18 (by decide)
          have k19 : vals 19 = .slice (some ⟨b3, off3, none⟩) n2 cap3 := hφ 19 (by decide)
          have k20 : vals 20 = .int .i64 k := hφ 20 (by decide)
          have k21 : vals 21 = .pointer (some ⟨b3, off3 + k * 3, none⟩) := hφ 21 (by decide)
          have k22 : vals 22 = .agg #[.bool (U k).on, .int .i64 (U k).lo, .int .i64 (U k).hi] := hφ 22 (by decide)
          have k23 : vals 23 = .bool p := hφ 23 (by decide)
          have k24 : vals 24 = .bool !p := hφ 24 (by decide)
          have k25 : vals 25 = .bool !p := hφ 25 (by decide)
          simp only [frOf, Act.put, List.setIfInBounds_toArray, List.set_cons_succ, List.set_cons_zero, k0, k1, k2, k3, k4, k5, k6, k7, k8, k9, k10, k11, k12, k13, k14, k15, k16, k17, k18, k19, k20, k21, k22, k23, k24, k25]
          clear k0 k1 k2 k3 k4 k5 k6 k7 k8 k9 k10 k11 k12 k13 k14 k15 k16 k17 k18 k19 k20 k21 k22 k23 k24 k25 hall hφ hS0
          have H := hS.1
          clear hS
          cases p
          · go_wp2_with fail
            go_ret
            exact ⟨ret_bool (by rw [hRS.out, crtTo_false hlt (by rw [hp.out]; simp)]), H.below⟩
          · go_wp2_with fail
            go_roundw
            case rel => exact ⟨k + 1, by omega, by go_num, (by simp only [crtTo, hO.out, hrow.out, hq.out, hp.out, Bool.and_self] : _ = _), H⟩
            case measure => simp [intOf]; omega
    · obtain rfl : k = n2 := by omega
      go_wp2_with fail
      go_ret
      exact ⟨ret_bool (by rw [hRS.out, hO.out]), H.below⟩
set_option maxRecDepth 10000 in
set_option maxHeartbeats 8000000 in
theorem crtOkI (a : Option Addr) (b off m cap : Nat) (P : Nat → Proc) (S : Nat → Spot) (a1 : Option Addr) (b1 off1 n cap1 : Nat) (z : Nat → Int) (a2 : Option Addr) (b2 off2 m2 cap2 : Nat) (R : Nat → Rw) (T : Nat → RSpot) (a3 : Option Addr) (b3 off3 n2 cap3 : Nat) (U : Nat → Sm) (w : World) (hm : m ≤ 1048576) (hN : ∀ i, i < m → (P i).n ≤ 1048576) (hn : n ≤ 1048576) (hm2 : m2 ≤ 1048576) (hR2 : ∀ i, i < m2 → (R i).n ≤ 1048576 ∧ ∀ j, j < (R i).n → ((R i).x j).n ≤ 1048576) (hn2 : n2 ≤ 1048576) (hP : ProcsAt a b off m P S w) (hZ : IntsAt a1 b1 off1 n z w) (hR : RowsAt a2 b2 off2 m2 R T w) (hU : SumsAt a3 b3 off3 n2 U w) :
    Calls Try.prog 14 #[.agg #[.slice a m cap], .slice a1 n cap1, .agg #[.slice a2 m2 cap2, .slice a3 n2 cap3]] w fun e w' => e = .returned (.bool (crtOk P m n z m2 R n2 U)) ∧ Below w.heap.size w w' := by
  have H : HeldL w [(w.heap.size + 1, [Value.slice a2 m2 cap2, .slice a3 n2 cap3]), (w.heap.size, [Value.slice a m cap])] ((w.alloc (.cells #[.slice a m cap] 35)).alloc (.cells #[.slice a2 m2 cap2, .slice a3 n2 cap3] 41)) := by
    have e1 : w.heap.size + 1 = (w.alloc (.cells #[.slice a m cap] 35)).heap.size := by simp
    rw [e1]
    exact HeldL.newL (vs := [Value.slice a2 m2 cap2, .slice a3 n2 cap3]) (HeldL.newL (vs := [Value.slice a m cap]) (HeldL.nil w))
  obtain ⟨Lb, hLb⟩ : ∃ L, L = [(w.heap.size + 1, [Value.slice a2 m2 cap2, .slice a3 n2 cap3]), (w.heap.size, [Value.slice a m cap])] := ⟨_, rfl⟩
  have mP : (w.heap.size, [Value.slice a m cap]) ∈ Lb := by rw [hLb]; simp
  have mC : (w.heap.size + 1, [Value.slice a2 m2 cap2, .slice a3 n2 cap3]) ∈ Lb := by rw [hLb]; simp
  rw [← hLb] at H
  clear hLb
  have J := hZ.next H.below
  have Q := hP.next H.below
  have hPw := hP
  clear hP
  go_enter Try.func14, Try.ntmps14
  go_wp2_with fail
  refine (partI _ _ _ _ _ _ _ _ _ _ _ _ _ _ hm hN hn Q J).mono ?_
  rintro e w1 ⟨rfl, hb⟩
  replace H := H.next hb
  clear hb Q J
  cases g : partOk P m n z
  · go_wp2_with fail
    go_ret
    exact ⟨ret_bool (by simp [crtOk, g]), H.below⟩
  have x0 := H.cell mC (i := 0) rfl
  have x1 := H.cell mC (i := 1) rfl
  dsimp only at x0 x1
  by_cases h1 : m2 = n
  case neg =>
    have h1' : ¬ (m2 : Int) = (n : Int) := by omega
    go_wp2_with fail
    go_ret
    exact ⟨ret_bool (by simp [crtOk, h1]), H.below⟩
  have h1b : ((m2 : Int) != (n : Int)) = false := by simp; omega
  by_cases h2 : n2 = n
  case neg =>
    have h2' : ¬ (n2 : Int) = (n : Int) := by omega
    have h1' : (m2 : Int) = (n : Int) := by omega
    go_wp2_with fail
    go_ret
    exact ⟨ret_bool (by simp [crtOk, h2]), H.below⟩
  subst h1 h2
  have g0 : 0 < n2 := by simp [partOk] at g; exact g.2.1
  have gz : ∀ k, k < n2 → ∃ q : Nat, q < m ∧ z k = (q : Int) := fun k hk => by
    simp [partOk] at g
    have := partTo_at hk g.2.2
    simp [partAt, placeB] at this
    exact ⟨(z k).toNat, by omega, by omega⟩
  have hRR : Hid (crtOk P m n2 z n2 R n2 U = (rwsTo P z R n2 && smsOk U n2)) := (by simp [crtOk, g] : _ = _)
  have ea := hPw.at_ (by obtain ⟨q, hq, _⟩ := gz 0 g0; omega)
  have ea1 := hZ.at_ g0
  have ea2 := hR.at_ g0
  have ea3 := hU.at_ g0
  clear g h1b
  subst ea ea1 ea2 ea3
  go_wp2_with fail
  clear x0 x1
  go_loopw [31] (fun i wr => ∃ k : Nat, k ≤ n2 ∧ i = .int .i64 k ∧ Hid (rwsTo P z R k = true) ∧ HeldL w Lb wr) (fun i _ => n2 - (intOf i).toNat)
  case atStart => exact ⟨0, Nat.zero_le _, rfl, (rfl : _ = _), H⟩
  case round =>
    clear H
    obtain ⟨k, hk, rfl, hO, H⟩ := hrel
    by_cases hlt : k < n2
    · have t1 : ((k : Int)).toNat = k := by omega
      have t2 : (0 : Int) ≤ (k : Int) := by omega
      have t3 : (k : Int) < (n2 : Int) := by omega
      obtain ⟨qk, hqm, hqk⟩ := gz k hlt
      have q1 : ((qk : Int)).toNat = qk := by omega
      have q2 : (0 : Int) ≤ (qk : Int) := by omega
      have q3 : (qk : Int) < (m : Int) := by omega
      have hzq : Hid ((z k).toNat = qk) := (by rw [hqk]; omega : _ = _)
      have hz0 := (hZ.next H.below).cell k hlt
      rw [hqk] at hz0
      have hS0 : HX w wr Lb wr.drew := ⟨H.drew, (Below.refl _ wr).drew⟩
      clear H gz
      have hrow : Hid (rowOk P z R k = (decide ((R k).n = (P qk).n) && stsOk (R k).x (R k).n)) := (by simp only [rowOk, hzq.out] : _ = _)
      obtain ⟨q, hq'⟩ : ∃ q, stsOk (R k).x (R k).n = q := ⟨_, rfl⟩
      have hq : Hid (stsOk (R k).x (R k).n = q) := hq'
      clear hq'
      by_cases hne : (R k).n = (P qk).n
      case neg =>
        have hnb : ((R k).n : Int) != ((P qk).n : Int) := by simp; omega
        go_wp2_with fail
        refine region_inv3 [(0, 36), (1, 37), (2, 38), (3, 39), (4, 40), (5, 41), (6, 42), (7, 43), (8, 44), (9, 45), (10, 46), (11, 47), (12, 48), (13, 49), (14, 50), (15, 51), (16, 52), (17, 53), (18, 54), (19, 55), (20, 56), (21, 57), (22, 58)]
          (fun j v _ => match j with
            | 0 => Is (.pointer (some ⟨w.heap.size + 1, 0, none⟩)) v
            | 1 => Is (.slice (some ⟨b2, off2, none⟩) n2 cap2) v
            | 2 => Is (.int .i64 k) v
            | 3 => Is (.pointer (some ⟨b2, off2 + k, none⟩)) v
            | 4 => Is (.slice (T k).a (R k).n (T k).cap) v
            | 5 => Is (.int .i64 (R k).n) v
            | 6 => Is (.pointer (some ⟨w.heap.size, 0, none⟩)) v
            | 7 => Is (.slice (some ⟨b, off, none⟩) m cap) v
            | 8 => Is (.int .i64 qk) v
            | 9 => Is (.pointer (some ⟨b, off + qk * 3, none⟩)) v
            | 10 => Is (.pointer (some ⟨b, off + qk * 3 + 2, none⟩)) v
            | 11 => Is (.slice (S qk).a (P qk).n (S qk).cap) v
            | 12 => Is (.int .i64 (P qk).n) v
            | 13 => Is (.bool true) v
            | 14 => Is (.bool true) v
            | 15 => Is (undef) v
            | 16 => Is (undef) v
            | 17 => Is (undef) v
            | 18 => Is (undef) v
            | 19 => Is (undef) v
            | 20 => Is (undef) v
            | 21 => Is (undef) v
            | 22 => Is (.bool true) v
            | _ => True)
          (fun _ W => HX w wr Lb W) TT
          (by kernel_rfl) (by kernel_rfl) (by kernel_rfl) (by kernel_rfl) (by kernel_rfl) rfl hS0 (fun i j v W W' _ h _ => h) ?_ ?_
        · intro i L vals W hi' hφ hS hL hd
          have hi2 : i < 23 := hi'
          clear hi'
          rcases (show i = 0 ∨ i = 1 ∨ i = 2 ∨ i = 3 ∨ i = 4 ∨ i = 5 ∨ i = 6 ∨ i = 7 ∨ i = 8 ∨ i = 9 ∨ i = 10 ∨ i = 11 ∨ i = 12 ∨ i = 13 ∨ i = 14 ∨ i = 15 ∨ i = 16 ∨ i = 17 ∨ i = 18 ∨ i = 19 ∨ i = 20 ∨ i = 21 ∨ i = 22 by omega) with rfl | rfl | rfl | rfl | rfl | rfl | rfl | rfl | rfl | rfl | rfl | rfl | rfl | rfl | rfl | rfl | rfl | rfl | rfl | rfl | rfl | rfl | rfl
          · refine wpAt_of rfl rfl ?_
            simp only [frOf, Act.put]
            go_wp2_with fail
            first | exact ⟨trivial, rfl, trivial, hS⟩ | exact ⟨rfl, trivial, hS⟩ | exact ⟨trivial, rfl, trivial⟩ | exact ⟨rfl, trivial⟩ | exact rfl
          · have k0 : vals 0 = .pointer (some ⟨w.heap.size + 1, 0, none⟩) := hφ 0 (hd 0 (by decide))
            have c0 := hS.cell mC (i := 0) rfl
            dsimp only at c0
            refine wpAt_of rfl rfl ?_
            simp only [frOf, Act.put]
            go_wp2_with fail
            first | exact ⟨trivial, rfl, trivial, hS⟩ | exact ⟨rfl, trivial, hS⟩ | exact ⟨trivial, rfl, trivial⟩ | exact ⟨rfl, trivial⟩ | exact rfl
          · refine wpAt_of rfl rfl ?_
            simp only [frOf, Act.put]
            go_wp2_with fail
            first | exact ⟨trivial, rfl, trivial, hS⟩ | exact ⟨rfl, trivial, hS⟩ | exact ⟨trivial, rfl, trivial⟩ | exact ⟨rfl, trivial⟩ | exact rfl
          · have k1 : vals 1 = .slice (some ⟨b2, off2, none⟩) n2 cap2 := hφ 1 (hd 1 (by decide))
            have k2 : vals 2 = .int .i64 k := hφ 2 (hd 2 (by decide))
            refine wpAt_of rfl rfl ?_
            simp only [frOf, Act.put]
            go_wp2_with fail
            first | exact ⟨trivial, rfl, trivial, hS⟩ | exact ⟨rfl, trivial, hS⟩ | exact ⟨trivial, rfl, trivial⟩ | exact ⟨rfl, trivial⟩ | exact rfl
          · have k3 : vals 3 = .pointer (some ⟨b2, off2 + k, none⟩) := hφ 3 (hd 3 (by decide))
            have d0 := (hR.next hS.below).cell k hlt
            refine wpAt_of rfl rfl ?_
            simp only [frOf, Act.put]
            go_wp2_with fail
            first | exact ⟨trivial, rfl, trivial, hS⟩ | exact ⟨rfl, trivial, hS⟩ | exact ⟨trivial, rfl, trivial⟩ | exact ⟨rfl, trivial⟩ | exact rfl
          · have k4 : vals 4 = .slice (T k).a (R k).n (T k).cap := hφ 4 (hd 4 (by decide))
            refine wpAt_of rfl rfl ?_
            simp only [frOf, Act.put]
            go_wp2_with fail
            first | exact ⟨trivial, rfl, trivial, hS⟩ | exact ⟨rfl, trivial, hS⟩ | exact ⟨trivial, rfl, trivial⟩ | exact ⟨rfl, trivial⟩ | exact rfl
          · refine wpAt_of rfl rfl ?_
            simp only [frOf, Act.put]
            go_wp2_with fail
            first | exact ⟨trivial, rfl, trivial, hS⟩ | exact ⟨rfl, trivial, hS⟩ | exact ⟨trivial, rfl, trivial⟩ | exact ⟨rfl, trivial⟩ | exact rfl
          · have k6 : vals 6 = .pointer (some ⟨w.heap.size, 0, none⟩) := hφ 6 (hd 6 (by decide))
            have c0 := hS.cell mP (i := 0) rfl
            dsimp only at c0
            refine wpAt_of rfl rfl ?_
            simp only [frOf, Act.put]
            go_wp2_with fail
            first | exact ⟨trivial, rfl, trivial, hS⟩ | exact ⟨rfl, trivial, hS⟩ | exact ⟨trivial, rfl, trivial⟩ | exact ⟨rfl, trivial⟩ | exact rfl
          · refine wpAt_of rfl rfl ?_
            simp only [frOf, Act.put]
            go_wp2_with fail
            first | exact ⟨trivial, rfl, trivial, hS⟩ | exact ⟨rfl, trivial, hS⟩ | exact ⟨trivial, rfl, trivial⟩ | exact ⟨rfl, trivial⟩ | exact rfl
          · have k7 : vals 7 = .slice (some ⟨b, off, none⟩) m cap := hφ 7 (hd 7 (by decide))
            have k8 : vals 8 = .int .i64 qk := hφ 8 (hd 8 (by decide))
            refine wpAt_of rfl rfl ?_
            simp only [frOf, Act.put]
            go_wp2_with fail
            first | exact ⟨trivial, rfl, trivial, hS⟩ | exact ⟨rfl, trivial, hS⟩ | exact ⟨trivial, rfl, trivial⟩ | exact ⟨rfl, trivial⟩ | exact rfl
          · have k9 : vals 9 = .pointer (some ⟨b, off + qk * 3, none⟩) := hφ 9 (hd 9 (by decide))
            refine wpAt_of rfl rfl ?_
            simp only [frOf, Act.put]
            go_wp2_with fail
            first | exact ⟨trivial, rfl, trivial, hS⟩ | exact ⟨rfl, trivial, hS⟩ | exact ⟨trivial, rfl, trivial⟩ | exact ⟨rfl, trivial⟩ | exact rfl
          · have k10 : vals 10 = .pointer (some ⟨b, off + qk * 3 + 2, none⟩) := hφ 10 (hd 10 (by decide))
            have d0 := (hPw.next hS.below).code qk hqm
            refine wpAt_of rfl rfl ?_
            simp only [frOf, Act.put]
            go_wp2_with fail
            first | exact ⟨trivial, rfl, trivial, hS⟩ | exact ⟨rfl, trivial, hS⟩ | exact ⟨trivial, rfl, trivial⟩ | exact ⟨rfl, trivial⟩ | exact rfl
          · have k11 : vals 11 = .slice (S qk).a (P qk).n (S qk).cap := hφ 11 (hd 11 (by decide))
            refine wpAt_of rfl rfl ?_
            simp only [frOf, Act.put]
            go_wp2_with fail
            first | exact ⟨trivial, rfl, trivial, hS⟩ | exact ⟨rfl, trivial, hS⟩ | exact ⟨trivial, rfl, trivial⟩ | exact ⟨rfl, trivial⟩ | exact rfl
          · have k5 : vals 5 = .int .i64 (R k).n := hφ 5 (hd 5 (by decide))
            have k12 : vals 12 = .int .i64 (P qk).n := hφ 12 (hd 12 (by decide))
            refine wpAt_of rfl rfl ?_
            simp only [frOf, Act.put]
            go_wp2_with fail
            first | exact ⟨trivial, rfl, trivial, hS⟩ | exact ⟨rfl, trivial, hS⟩ | exact ⟨trivial, rfl, trivial⟩ | exact ⟨rfl, trivial⟩ | exact rfl
          · have k13 : vals 13 = .bool true := hφ 13 (hd 13 (by decide))
            refine wpAt_of rfl rfl ?_
            simp only [frOf, Act.put]
            go_wp2_with fail
            first | exact ⟨trivial, rfl, trivial, hS⟩ | exact ⟨rfl, trivial, hS⟩ | exact ⟨trivial, rfl, trivial⟩ | exact ⟨rfl, trivial⟩ | exact rfl
          · have k14 : vals 14 = .bool true := hφ 14 (hd 14 (by decide))
            simp only [wpAt, List.getElem?_toArray, List.getElem?_cons_succ, List.getElem?_cons_zero, slotOf, frOf, Act.put]
            go_wp2_with fail
            first | exact ⟨trivial, rfl, trivial, hS⟩ | exact ⟨rfl, trivial, hS⟩ | exact ⟨trivial, rfl, trivial⟩ | exact ⟨rfl, trivial⟩ | exact rfl
          · have k14 : vals 14 = .bool true := hφ 14 (hd 14 (by decide))
            have k15 : vals 15 = undef := hφ 15 (hd 15 (by decide))
            simp only [wpAt, List.getElem?_toArray, List.getElem?_cons_succ, List.getElem?_cons_zero, slotOf, frOf, Act.put]
            go_wp2_with fail
            first | exact ⟨trivial, rfl, trivial, hS⟩ | exact ⟨rfl, trivial, hS⟩ | exact ⟨trivial, rfl, trivial⟩ | exact ⟨rfl, trivial⟩ | exact rfl
          · have k14 : vals 14 = .bool true := hφ 14 (hd 14 (by decide))
            simp only [wpAt, List.getElem?_toArray, List.getElem?_cons_succ, List.getElem?_cons_zero, slotOf, frOf, Act.put]
            go_wp2_with fail
            first | exact ⟨trivial, rfl, trivial, hS⟩ | exact ⟨rfl, trivial, hS⟩ | exact ⟨trivial, rfl, trivial⟩ | exact ⟨rfl, trivial⟩ | exact rfl
          · have k14 : vals 14 = .bool true := hφ 14 (hd 14 (by decide))
            have k16 : vals 16 = undef := hφ 16 (hd 16 (by decide))
            have k17 : vals 17 = undef := hφ 17 (hd 17 (by decide))
            simp only [wpAt, List.getElem?_toArray, List.getElem?_cons_succ, List.getElem?_cons_zero, slotOf, frOf, Act.put]
            go_wp2_with fail
            first | exact ⟨trivial, rfl, trivial, hS⟩ | exact ⟨rfl, trivial, hS⟩ | exact ⟨trivial, rfl, trivial⟩ | exact ⟨rfl, trivial⟩ | exact rfl
          · have k14 : vals 14 = .bool true := hφ 14 (hd 14 (by decide))
            have k18 : vals 18 = undef := hφ 18 (hd 18 (by decide))
            simp only [wpAt, List.getElem?_toArray, List.getElem?_cons_succ, List.getElem?_cons_zero, slotOf, frOf, Act.put]
            go_wp2_with fail
            first | exact ⟨trivial, rfl, trivial, hS⟩ | exact ⟨rfl, trivial, hS⟩ | exact ⟨trivial, rfl, trivial⟩ | exact ⟨rfl, trivial⟩ | exact rfl
          · have k14 : vals 14 = .bool true := hφ 14 (hd 14 (by decide))
            have k19 : vals 19 = undef := hφ 19 (hd 19 (by decide))
            simp only [wpAt, List.getElem?_toArray, List.getElem?_cons_succ, List.getElem?_cons_zero, slotOf, frOf, Act.put]
            go_wp2_with fail
            first | exact ⟨trivial, rfl, trivial, hS⟩ | exact ⟨rfl, trivial, hS⟩ | exact ⟨trivial, rfl, trivial⟩ | exact ⟨rfl, trivial⟩ | exact rfl
          · have k14 : vals 14 = .bool true := hφ 14 (hd 14 (by decide))
            have k20 : vals 20 = undef := hφ 20 (hd 20 (by decide))
            simp only [wpAt, List.getElem?_toArray, List.getElem?_cons_succ, List.getElem?_cons_zero, slotOf, frOf, Act.put]
            go_wp2_with fail
            first | exact ⟨trivial, rfl, trivial, hS⟩ | exact ⟨rfl, trivial, hS⟩ | exact ⟨trivial, rfl, trivial⟩ | exact ⟨rfl, trivial⟩ | exact rfl
          · have k14 : vals 14 = .bool true := hφ 14 (hd 14 (by decide))
            have k21 : vals 21 = undef := hφ 21 (hd 21 (by decide))
            refine wpAt_of rfl rfl ?_
            simp only [frOf, Act.put]
            go_wp2_with fail
            first | exact ⟨trivial, rfl, trivial, hS⟩ | exact ⟨rfl, trivial, hS⟩ | exact ⟨trivial, rfl, trivial⟩ | exact ⟨rfl, trivial⟩ | exact rfl
        · intro L vals W hall hφ hS
          have k0 : vals 0 = .pointer (some ⟨w.heap.size + 1, 0, none⟩) := hφ 0 (by decide)
          have k1 : vals 1 = .slice (some ⟨b2, off2, none⟩) n2 cap2 := hφ 1 (by decide)
          have k2 : vals 2 = .int .i64 k := hφ 2 (by decide)
          have k3 : vals 3 = .pointer (some ⟨b2, off2 + k, none⟩) := hφ 3 (by decide)
          have k4 : vals 4 = .slice (T k).a (R k).n (T k).cap := hφ 4 (by decide)
          have k5 : vals 5 = .int .i64 (R k).n := hφ 5 (by decide)
          have k6 : vals 6 = .pointer (some ⟨w.heap.size, 0, none⟩) := hφ 6 (by decide)
          have k7 : vals 7 = .slice (some ⟨b, off, none⟩) m cap := hφ 7 (by decide)
          have k8 : vals 8 = .int .i64 qk := hφ 8 (by decide)
          have k9 : vals 9 = .pointer (some ⟨b, off + qk * 3, none⟩) := hφ 9 (by decide)
          have k10 : vals 10 = .pointer (some ⟨b, off + qk * 3 + 2, none⟩) := hφ 10 (by decide)
          have k11 : vals 11 = .slice (S qk).a (P qk).n (S qk).cap := hφ 11 (by decide)
          have k12 : vals 12 = .int .i64 (P qk).n := hφ 12 (by decide)
          have k13 : vals 13 = .bool true := hφ 13 (by decide)
          have k14 : vals 14 = .bool true := hφ 14 (by decide)
          have k15 : vals 15 = undef := hφ 15 (by decide)
          have k16 : vals 16 = undef := hφ 16 (by decide)
          have k17 : vals 17 = undef := hφ 17 (by decide)
          have k18 : vals 18 = undef := hφ 18 (by decide)
          have k19 : vals 19 = undef := hφ 19 (by decide)
          have k20 : vals 20 = undef := hφ 20 (by decide)
          have k21 : vals 21 = undef := hφ 21 (by decide)
          have k22 : vals 22 = .bool true := hφ 22 (by decide)
          simp only [frOf, Act.put, List.setIfInBounds_toArray, List.set_cons_succ, List.set_cons_zero, k0, k1, k2, k3, k4, k5, k6, k7, k8, k9, k10, k11, k12, k13, k14, k15, k16, k17, k18, k19, k20, k21, k22]
          clear k0 k1 k2 k3 k4 k5 k6 k7 k8 k9 k10 k11 k12 k13 k14 k15 k16 k17 k18 k19 k20 k21 k22 hall hφ hS0
          have H := hS.1
          clear hS
          go_wp2_with fail
          go_ret
          exact ⟨ret_bool (by rw [hRR.out, rwsTo_false hlt (by rw [hrow.out]; simp [hne])]; rfl), H.below⟩
      have hnb : (((R k).n : Int) != ((P qk).n : Int)) = false := by simp; omega
      have hneS : Hid ((R k).n = (P qk).n) := hne
      clear hne
      go_wp2_with fail
      refine region_inv3 [(0, 36), (1, 37), (2, 38), (3, 39), (4, 40), (5, 41), (6, 42), (7, 43), (8, 44), (9, 45), (10, 46), (11, 47), (12, 48), (13, 49), (14, 50), (15, 51), (16, 52), (17, 53), (18, 54), (19, 55), (20, 56), (21, 57), (22, 58)]
        (fun j v _ => match j with
          | 0 => Is (.pointer (some ⟨w.heap.size + 1, 0, none⟩)) v
          | 1 => Is (.slice (some ⟨b2, off2, none⟩) n2 cap2) v
          | 2 => Is (.int .i64 k) v
          | 3 => Is (.pointer (some ⟨b2, off2 + k, none⟩)) v
          | 4 => Is (.slice (T k).a (R k).n (T k).cap) v
          | 5 => Is (.int .i64 (R k).n) v
          | 6 => Is (.pointer (some ⟨w.heap.size, 0, none⟩)) v
          | 7 => Is (.slice (some ⟨b, off, none⟩) m cap) v
          | 8 => Is (.int .i64 qk) v
          | 9 => Is (.pointer (some ⟨b, off + qk * 3, none⟩)) v
          | 10 => Is (.pointer (some ⟨b, off + qk * 3 + 2, none⟩)) v
          | 11 => Is (.slice (S qk).a (P qk).n (S qk).cap) v
          | 12 => Is (.int .i64 (P qk).n) v
          | 13 => Is (.bool false) v
          | 14 => Is (.bool false) v
          | 15 => Is (.pointer (some ⟨w.heap.size + 1, 0, none⟩)) v
          | 16 => Is (.slice (some ⟨b2, off2, none⟩) n2 cap2) v
          | 17 => Is (.int .i64 k) v
          | 18 => Is (.pointer (some ⟨b2, off2 + k, none⟩)) v
          | 19 => Is (.slice (T k).a (R k).n (T k).cap) v
          | 20 => Is (.bool q) v
          | 21 => Is (.bool !q) v
          | 22 => Is (.bool !q) v
          | _ => True)
        (fun _ W => HX w wr Lb W) TT
        (by kernel_rfl) (by kernel_rfl) (by kernel_rfl) (by kernel_rfl) (by kernel_rfl) rfl hS0 (fun i j v W W' _ h _ => h) ?_ ?_
      · intro i L vals W hi' hφ hS hL hd
        have hi2 : i < 23 := hi'
        clear hi'
        rcases (show i = 0 ∨ i = 1 ∨ i = 2 ∨ i = 3 ∨ i = 4 ∨ i = 5 ∨ i = 6 ∨ i = 7 ∨ i = 8 ∨ i = 9 ∨ i = 10 ∨ i = 11 ∨ i = 12 ∨ i = 13 ∨ i = 14 ∨ i = 15 ∨ i = 16 ∨ i = 17 ∨ i = 18 ∨ i = 19 ∨ i = 20 ∨ i = 21 ∨ i = 22 by omega) with rfl | rfl | rfl | rfl | rfl | rfl | rfl | rfl | rfl | rfl | rfl | rfl | rfl | rfl | rfl | rfl | rfl | rfl | rfl | rfl | rfl | rfl | rfl
        · refine wpAt_of rfl rfl ?_
          simp only [frOf, Act.put]
          go_wp2_with fail
          first | exact ⟨trivial, rfl, trivial, hS⟩ | exact ⟨rfl, trivial, hS⟩ | exact ⟨trivial, rfl, trivial⟩ | exact ⟨rfl, trivial⟩ | exact rfl
        · have k0 : vals 0 = .pointer (some ⟨w.heap.size + 1, 0, none⟩) := hφ 0 (hd 0 (by decide))
          have c0 := hS.cell mC (i := 0) rfl
          dsimp only at c0
          refine wpAt_of rfl rfl ?_
          simp only [frOf, Act.put]
          go_wp2_with fail
          first | exact ⟨trivial, rfl, trivial, hS⟩ | exact ⟨rfl, trivial, hS⟩ | exact ⟨trivial, rfl, trivial⟩ | exact ⟨rfl, trivial⟩ | exact rfl
        · refine wpAt_of rfl rfl ?_
          simp only [frOf, Act.put]
          go_wp2_with fail
          first | exact ⟨trivial, rfl, trivial, hS⟩ | exact ⟨rfl, trivial, hS⟩ | exact ⟨trivial, rfl, trivial⟩ | exact ⟨rfl, trivial⟩ | exact rfl
        · have k1 : vals 1 = .slice (some ⟨b2, off2, none⟩) n2 cap2 := hφ 1 (hd 1 (by decide))
          have k2 : vals 2 = .int .i64 k := hφ 2 (hd 2 (by decide))
          refine wpAt_of rfl rfl ?_
          simp only [frOf, Act.put]
          go_wp2_with fail
          first | exact ⟨trivial, rfl, trivial, hS⟩ | exact ⟨rfl, trivial, hS⟩ | exact ⟨trivial, rfl, trivial⟩ | exact ⟨rfl, trivial⟩ | exact rfl
        · have k3 : vals 3 = .pointer (some ⟨b2, off2 + k, none⟩) := hφ 3 (hd 3 (by decide))
          have d0 := (hR.next hS.below).cell k hlt
          refine wpAt_of rfl rfl ?_
          simp only [frOf, Act.put]
          go_wp2_with fail
          first | exact ⟨trivial, rfl, trivial, hS⟩ | exact ⟨rfl, trivial, hS⟩ | exact ⟨trivial, rfl, trivial⟩ | exact ⟨rfl, trivial⟩ | exact rfl
        · have k4 : vals 4 = .slice (T k).a (R k).n (T k).cap := hφ 4 (hd 4 (by decide))
          refine wpAt_of rfl rfl ?_
          simp only [frOf, Act.put]
          go_wp2_with fail
          first | exact ⟨trivial, rfl, trivial, hS⟩ | exact ⟨rfl, trivial, hS⟩ | exact ⟨trivial, rfl, trivial⟩ | exact ⟨rfl, trivial⟩ | exact rfl
        · refine wpAt_of rfl rfl ?_
          simp only [frOf, Act.put]
          go_wp2_with fail
          first | exact ⟨trivial, rfl, trivial, hS⟩ | exact ⟨rfl, trivial, hS⟩ | exact ⟨trivial, rfl, trivial⟩ | exact ⟨rfl, trivial⟩ | exact rfl
        · have k6 : vals 6 = .pointer (some ⟨w.heap.size, 0, none⟩) := hφ 6 (hd 6 (by decide))
          have c0 := hS.cell mP (i := 0) rfl
          dsimp only at c0
          refine wpAt_of rfl rfl ?_
          simp only [frOf, Act.put]
          go_wp2_with fail
          first | exact ⟨trivial, rfl, trivial, hS⟩ | exact ⟨rfl, trivial, hS⟩ | exact ⟨trivial, rfl, trivial⟩ | exact ⟨rfl, trivial⟩ | exact rfl
        · refine wpAt_of rfl rfl ?_
          simp only [frOf, Act.put]
          go_wp2_with fail
          first | exact ⟨trivial, rfl, trivial, hS⟩ | exact ⟨rfl, trivial, hS⟩ | exact ⟨trivial, rfl, trivial⟩ | exact ⟨rfl, trivial⟩ | exact rfl
        · have k7 : vals 7 = .slice (some ⟨b, off, none⟩) m cap := hφ 7 (hd 7 (by decide))
          have k8 : vals 8 = .int .i64 qk := hφ 8 (hd 8 (by decide))
          refine wpAt_of rfl rfl ?_
          simp only [frOf, Act.put]
          go_wp2_with fail
          first | exact ⟨trivial, rfl, trivial, hS⟩ | exact ⟨rfl, trivial, hS⟩ | exact ⟨trivial, rfl, trivial⟩ | exact ⟨rfl, trivial⟩ | exact rfl
        · have k9 : vals 9 = .pointer (some ⟨b, off + qk * 3, none⟩) := hφ 9 (hd 9 (by decide))
          refine wpAt_of rfl rfl ?_
          simp only [frOf, Act.put]
          go_wp2_with fail
          first | exact ⟨trivial, rfl, trivial, hS⟩ | exact ⟨rfl, trivial, hS⟩ | exact ⟨trivial, rfl, trivial⟩ | exact ⟨rfl, trivial⟩ | exact rfl
        · have k10 : vals 10 = .pointer (some ⟨b, off + qk * 3 + 2, none⟩) := hφ 10 (hd 10 (by decide))
          have d0 := (hPw.next hS.below).code qk hqm
          refine wpAt_of rfl rfl ?_
          simp only [frOf, Act.put]
          go_wp2_with fail
          first | exact ⟨trivial, rfl, trivial, hS⟩ | exact ⟨rfl, trivial, hS⟩ | exact ⟨trivial, rfl, trivial⟩ | exact ⟨rfl, trivial⟩ | exact rfl
        · have k11 : vals 11 = .slice (S qk).a (P qk).n (S qk).cap := hφ 11 (hd 11 (by decide))
          refine wpAt_of rfl rfl ?_
          simp only [frOf, Act.put]
          go_wp2_with fail
          first | exact ⟨trivial, rfl, trivial, hS⟩ | exact ⟨rfl, trivial, hS⟩ | exact ⟨trivial, rfl, trivial⟩ | exact ⟨rfl, trivial⟩ | exact rfl
        · have k5 : vals 5 = .int .i64 (R k).n := hφ 5 (hd 5 (by decide))
          have k12 : vals 12 = .int .i64 (P qk).n := hφ 12 (hd 12 (by decide))
          refine wpAt_of rfl rfl ?_
          simp only [frOf, Act.put]
          go_wp2_with fail
          first | exact ⟨trivial, rfl, trivial, hS⟩ | exact ⟨rfl, trivial, hS⟩ | exact ⟨trivial, rfl, trivial⟩ | exact ⟨rfl, trivial⟩ | exact rfl
        · have k13 : vals 13 = .bool false := hφ 13 (hd 13 (by decide))
          refine wpAt_of rfl rfl ?_
          simp only [frOf, Act.put]
          go_wp2_with fail
          first | exact ⟨trivial, rfl, trivial, hS⟩ | exact ⟨rfl, trivial, hS⟩ | exact ⟨trivial, rfl, trivial⟩ | exact ⟨rfl, trivial⟩ | exact rfl
        · have k14 : vals 14 = .bool false := hφ 14 (hd 14 (by decide))
          simp only [wpAt, List.getElem?_toArray, List.getElem?_cons_succ, List.getElem?_cons_zero, slotOf, frOf, Act.put]
          go_wp2_with fail
          first | exact ⟨trivial, rfl, trivial, hS⟩ | exact ⟨rfl, trivial, hS⟩ | exact ⟨trivial, rfl, trivial⟩ | exact ⟨rfl, trivial⟩ | exact rfl
        · have k14 : vals 14 = .bool false := hφ 14 (hd 14 (by decide))
          have k15 : vals 15 = .pointer (some ⟨w.heap.size + 1, 0, none⟩) := hφ 15 (hd 15 (by decide))
          have c0 := hS.cell mC (i := 0) rfl
          dsimp only at c0
          simp only [wpAt, List.getElem?_toArray, List.getElem?_cons_succ, List.getElem?_cons_zero, slotOf, frOf, Act.put]
          go_wp2_with fail
          first | exact ⟨trivial, rfl, trivial, hS⟩ | exact ⟨rfl, trivial, hS⟩ | exact ⟨trivial, rfl, trivial⟩ | exact ⟨rfl, trivial⟩ | exact rfl
        · have k14 : vals 14 = .bool false := hφ 14 (hd 14 (by decide))
          simp only [wpAt, List.getElem?_toArray, List.getElem?_cons_succ, List.getElem?_cons_zero, slotOf, frOf, Act.put]
          go_wp2_with fail
          first | exact ⟨trivial, rfl, trivial, hS⟩ | exact ⟨rfl, trivial, hS⟩ | exact ⟨trivial, rfl, trivial⟩ | exact ⟨rfl, trivial⟩ | exact rfl
        · have k14 : vals 14 = .bool false := hφ 14 (hd 14 (by decide))
          have k16 : vals 16 = .slice (some ⟨b2, off2, none⟩) n2 cap2 := hφ 16 (hd 16 (by decide))
          have k17 : vals 17 = .int .i64 k := hφ 17 (hd 17 (by decide))
          simp only [wpAt, List.getElem?_toArray, List.getElem?_cons_succ, List.getElem?_cons_zero, slotOf, frOf, Act.put]
          go_wp2_with fail
          first | exact ⟨trivial, rfl, trivial, hS⟩ | exact ⟨rfl, trivial, hS⟩ | exact ⟨trivial, rfl, trivial⟩ | exact ⟨rfl, trivial⟩ | exact rfl
        · have k14 : vals 14 = .bool false := hφ 14 (hd 14 (by decide))
          have k18 : vals 18 = .pointer (some ⟨b2, off2 + k, none⟩) := hφ 18 (hd 18 (by decide))
          have d0 := (hR.next hS.below).cell k hlt
          simp only [wpAt, List.getElem?_toArray, List.getElem?_cons_succ, List.getElem?_cons_zero, slotOf, frOf, Act.put]
          go_wp2_with fail
          first | exact ⟨trivial, rfl, trivial, hS⟩ | exact ⟨rfl, trivial, hS⟩ | exact ⟨trivial, rfl, trivial⟩ | exact ⟨rfl, trivial⟩ | exact rfl
        · have k14 : vals 14 = .bool false := hφ 14 (hd 14 (by decide))
          have k19 : vals 19 = .slice (T k).a (R k).n (T k).cap := hφ 19 (hd 19 (by decide))
          simp only [wpAt, List.getElem?_toArray, List.getElem?_cons_succ, List.getElem?_cons_zero, slotOf, frOf, Act.put]
          go_wp2_with fail
          refine (allStI _ _ _ _ _ _ _ _ (hR2 k hlt).1 (hR2 k hlt).2 ((hR.next hS.below).row k hlt)).mono ?_
          rintro e W' ⟨rfl, hb⟩
          rw [hq.out]
          go_wp2_with fail
          first | exact ⟨trivial, rfl, trivial, HX.next hb hS⟩ | exact ⟨rfl, trivial, HX.next hb hS⟩ | exact ⟨trivial, rfl, trivial⟩ | exact ⟨rfl, trivial⟩ | exact rfl
        · have k14 : vals 14 = .bool false := hφ 14 (hd 14 (by decide))
          have k20 : vals 20 = .bool q := hφ 20 (hd 20 (by decide))
          simp only [wpAt, List.getElem?_toArray, List.getElem?_cons_succ, List.getElem?_cons_zero, slotOf, frOf, Act.put]
          go_wp2_with fail
          first | exact ⟨trivial, rfl, trivial, hS⟩ | exact ⟨rfl, trivial, hS⟩ | exact ⟨trivial, rfl, trivial⟩ | exact ⟨rfl, trivial⟩ | exact rfl
        · have k14 : vals 14 = .bool false := hφ 14 (hd 14 (by decide))
          have k21 : vals 21 = .bool !q := hφ 21 (hd 21 (by decide))
          refine wpAt_of rfl rfl ?_
          simp only [frOf, Act.put]
          go_wp2_with fail
          first | exact ⟨trivial, rfl, trivial, hS⟩ | exact ⟨rfl, trivial, hS⟩ | exact ⟨trivial, rfl, trivial⟩ | exact ⟨rfl, trivial⟩ | exact rfl
      · intro L vals W hall hφ hS
        have k0 : vals 0 = .pointer (some ⟨w.heap.size + 1, 0, none⟩) := hφ 0 (by decide)
        have k1 : vals 1 = .slice (some ⟨b2, off2, none⟩) n2 cap2 := hφ 1 (by decide)
        have k2 : vals 2 = .int .i64 k := hφ 2 (by decide)
        have k3 : vals 3 = .pointer (some ⟨b2, off2 + k, none⟩) := hφ 3 (by decide)
        have k4 : vals 4 = .slice (T k).a (R k).n (T k).cap := hφ 4 (by decide)
        have k5 : vals 5 = .int .i64 (R k).n := hφ 5 (by decide)
        have k6 : vals 6 = .pointer (some ⟨w.heap.size, 0, none⟩) := hφ 6 (by decide)
        have k7 : vals 7 = .slice (some ⟨b, off, none⟩) m cap := hφ 7 (by decide)
        have k8 : vals 8 = .int .i64 qk := hφ 8 (by decide)
        have k9 : vals 9 = .pointer (some ⟨b, off + qk * 3, none⟩) := hφ 9 (by decide)
        have k10 : vals 10 = .pointer (some ⟨b, off + qk * 3 + 2, none⟩) := hφ 10 (by decide)
        have k11 : vals 11 = .slice (S qk).a (P qk).n (S qk).cap := hφ 11 (by decide)
        have k12 : vals 12 = .int .i64 (P qk).n := hφ 12 (by decide)
        have k13 : vals 13 = .bool false := hφ 13 (by decide)
        have k14 : vals 14 = .bool false := hφ 14 (by decide)
        have k15 : vals 15 = .pointer (some ⟨w.heap.size + 1, 0, none⟩) := hφ 15 (by decide)
        have k16 : vals 16 = .slice (some ⟨b2, off2, none⟩) n2 cap2 := hφ 16 (by decide)
        have k17 : vals 17 = .int .i64 k := hφ 17 (by decide)
        have k18 : vals 18 = .pointer (some ⟨b2, off2 + k, none⟩) := hφ 18 (by decide)
        have k19 : vals 19 = .slice (T k).a (R k).n (T k).cap := hφ 19 (by decide)
        have k20 : vals 20 = .bool q := hφ 20 (by decide)
        have k21 : vals 21 = .bool !q := hφ 21 (by decide)
        have k22 : vals 22 = .bool !q := hφ 22 (by decide)
        simp only [frOf, Act.put, List.setIfInBounds_toArray, List.set_cons_succ, List.set_cons_zero, k0, k1, k2, k3, k4, k5, k6, k7, k8, k9, k10, k11, k12, k13, k14, k15, k16, k17, k18, k19, k20, k21, k22]
        clear k0 k1 k2 k3 k4 k5 k6 k7 k8 k9 k10 k11 k12 k13 k14 k15 k16 k17 k18 k19 k20 k21 k22 hall hφ hS0
        have H := hS.1
        clear hS
        cases q
        · go_wp2_with fail
          go_ret
          exact ⟨ret_bool (by rw [hRR.out, rwsTo_false hlt (by rw [hrow.out, hq.out]; simp)]; rfl), H.below⟩
        · go_wp2_with fail
          go_roundw
          case rel => exact ⟨k + 1, by omega, by go_num, (by simp only [rwsTo, hO.out]; rw [hrow.out, hq.out]; simp [hneS.out] : _ = _), H⟩
          case measure => simp [intOf]; omega
    · obtain rfl : k = n2 := by omega
      have c1 := H.cell mC (i := 1) rfl
      dsimp only at c1
      go_wp2_with fail
      refine (allSumI _ _ _ _ _ _ _ hn2 (hU.next H.below)).mono ?_
      rintro e w2 ⟨rfl, hb⟩
      replace H := H.next hb
      go_wp2_with fail
      go_ret
      exact ⟨ret_bool (by rw [hRR.out, hO.out]; rfl), H.below⟩
end Go.Proofs.Ytdpkbbbfnmneiaa
