/- Two copies of one paper are the same, to the laws; copies of papers as values in a region. -/
import Derived.Test.YtdpkbbbfnmneiaaStsTo
import Derived.Test.YtdpkbbbfnmneiaaExLaw
namespace Go.Proofs.Ytdpkbbbfnmneiaa
open Go.ChangeShapes Go.WideShapes Go.ChangeAt Go.RowKit

theorem blw {w W W' : World} (hb : Below W.heap.size W W') (h : Below w.heap.size w W) : Below w.heap.size w W' := below_tr h hb
set_option maxRecDepth 10000 in
set_option maxHeartbeats 8000000 in
theorem eqSts (g h n : Nat) (X : Nat → St) (B D : Nat → Nat) (w : World) (hbig : n ≤ 1048576) (hn : ∀ i, i < n → (X i).n ≤ 1048576) (h1 : StsAt (some ⟨g, 0, none⟩) g 0 n X (ownS B X) w) (h2 : StsAt (some ⟨h, 0, none⟩) h 0 n X (ownS D X) w) :
    Calls Try.prog 94 #[.slice (some ⟨g, 0, none⟩) n n, .slice (some ⟨h, 0, none⟩) n n] w fun e w' => e = .returned (.bool true) ∧ Below w.heap.size w w' := by
  go_enter Try.func94, Try.ntmps94
  go_wp2
  go_loopw [5] (fun i wr => ∃ k : Nat, k ≤ n ∧ i = .int .i64 k ∧ Below w.heap.size w wr) (fun i _ => n - (intOf i).toNat)
  case atStart => exact ⟨0, Nat.zero_le _, rfl, Below.refl _ _⟩
  case round =>
    obtain ⟨k, hk, rfl, hB⟩ := hrel
    by_cases hlt : k < n
    · have t1 : ((k : Int)).toNat = k := by omega
      have t2 : (0 : Int) ≤ (k : Int) := by omega
      have t3 : (k : Int) < (n : Int) := by omega
      have hS0 : Below w.heap.size w wr.drew := hB.drew
      clear hB
      have J1 : BndsAt (some ⟨B k, 0, none⟩) (B k) 0 (X k).n (X k).lo (X k).hi w := h1.bnds k hlt
      have J2 : BndsAt (some ⟨D k, 0, none⟩) (D k) 0 (X k).n (X k).lo (X k).hi w := h2.bnds k hlt
      have hn1 := hn k hlt
      clear hn
      go_wp2_with fail
      refine region_inv3 [(0, 17), (1, 18), (2, 19), (3, 20), (4, 21), (5, 22), (6, 23), (7, 24), (8, 25), (9, 26)]
        (fun j v _ => match j with
          | 0 => Is (.slice (some ⟨g, 0, none⟩) n n) v
          | 1 => Is (.int .i64 k) v
          | 2 => Is (.pointer (some ⟨g, k * 4, none⟩)) v
          | 3 => Is (.agg #[.bool (X k).on, .slice (some ⟨B k, 0, none⟩) (X k).n (X k).n, .int .i64 (X k).c, .int .i64 (X k).d]) v
          | 4 => Is (.slice (some ⟨h, 0, none⟩) n n) v
          | 5 => Is (.int .i64 k) v
          | 6 => Is (.pointer (some ⟨h, k * 4, none⟩)) v
          | 7 => Is (.agg #[.bool (X k).on, .slice (some ⟨D k, 0, none⟩) (X k).n (X k).n, .int .i64 (X k).c, .int .i64 (X k).d]) v
          | 8 => Is (.bool true) v
          | 9 => Is (.bool false) v
          | _ => True)
        (fun _ W => Below w.heap.size w W) TT
        (by kernel_rfl) (by kernel_rfl) (by kernel_rfl) (by kernel_rfl) (by kernel_rfl) rfl hS0 (fun i j v W W' _ h _ => h) ?_ ?_
      · intro i L vals W hi' hφ hS hL hd
        have hi2 : i < 10 := hi'
        clear hi'
        rcases (show i = 0 ∨ i = 1 ∨ i = 2 ∨ i = 3 ∨ i = 4 ∨ i = 5 ∨ i = 6 ∨ i = 7 ∨ i = 8 ∨ i = 9 by omega) with rfl | rfl | rfl | rfl | rfl | rfl | rfl | rfl | rfl | rfl
        · refine wpAt_of rfl rfl ?_
          simp only [frOf, Act.put]
          go_wp2_with fail
          first | exact ⟨trivial, rfl, trivial, hS⟩ | exact ⟨rfl, trivial, hS⟩ | exact ⟨trivial, rfl, trivial⟩ | exact ⟨rfl, trivial⟩ | exact rfl
        · refine wpAt_of rfl rfl ?_
          simp only [frOf, Act.put]
          go_wp2_with fail
          first | exact ⟨trivial, rfl, trivial, hS⟩ | exact ⟨rfl, trivial, hS⟩ | exact ⟨trivial, rfl, trivial⟩ | exact ⟨rfl, trivial⟩ | exact rfl
        · have k0 : vals 0 = .slice (some ⟨g, 0, none⟩) n n := hφ 0 (hd 0 (by decide))
          have k1 : vals 1 = .int .i64 k := hφ 1 (hd 1 (by decide))
          refine wpAt_of rfl rfl ?_
          simp only [frOf, Act.put]
          go_wp2_with fail
          first | exact ⟨trivial, rfl, trivial, hS⟩ | exact ⟨rfl, trivial, hS⟩ | exact ⟨trivial, rfl, trivial⟩ | exact ⟨rfl, trivial⟩ | exact rfl
        · have k2 : vals 2 = .pointer (some ⟨g, k * 4, none⟩) := hφ 2 (hd 2 (by decide))
          have dd := h1.next hS
          have d0 := dd.on k hlt
          have d1 := dd.vars k hlt
          have d2 := dd.c k hlt
          have d3 := dd.d k hlt
          dsimp only [ownS] at d1
          rw [Nat.zero_add] at d0 d1 d2 d3
          clear dd
          refine wpAt_of rfl rfl ?_
          simp only [frOf, Act.put]
          go_wp2_with fail
          first | exact ⟨trivial, rfl, trivial, hS⟩ | exact ⟨rfl, trivial, hS⟩ | exact ⟨trivial, rfl, trivial⟩ | exact ⟨rfl, trivial⟩ | exact rfl
        · refine wpAt_of rfl rfl ?_
          simp only [frOf, Act.put]
          go_wp2_with fail
          first | exact ⟨trivial, rfl, trivial, hS⟩ | exact ⟨rfl, trivial, hS⟩ | exact ⟨trivial, rfl, trivial⟩ | exact ⟨rfl, trivial⟩ | exact rfl
        · refine wpAt_of rfl rfl ?_
          simp only [frOf, Act.put]
          go_wp2_with fail
          first | exact ⟨trivial, rfl, trivial, hS⟩ | exact ⟨rfl, trivial, hS⟩ | exact ⟨trivial, rfl, trivial⟩ | exact ⟨rfl, trivial⟩ | exact rfl
        · have k4 : vals 4 = .slice (some ⟨h, 0, none⟩) n n := hφ 4 (hd 4 (by decide))
          have k5 : vals 5 = .int .i64 k := hφ 5 (hd 5 (by decide))
          refine wpAt_of rfl rfl ?_
          simp only [frOf, Act.put]
          go_wp2_with fail
          first | exact ⟨trivial, rfl, trivial, hS⟩ | exact ⟨rfl, trivial, hS⟩ | exact ⟨trivial, rfl, trivial⟩ | exact ⟨rfl, trivial⟩ | exact rfl
        · have k6 : vals 6 = .pointer (some ⟨h, k * 4, none⟩) := hφ 6 (hd 6 (by decide))
          have dd := h2.next hS
          have d0 := dd.on k hlt
          have d1 := dd.vars k hlt
          have d2 := dd.c k hlt
          have d3 := dd.d k hlt
          dsimp only [ownS] at d1
          rw [Nat.zero_add] at d0 d1 d2 d3
          clear dd
          refine wpAt_of rfl rfl ?_
          simp only [frOf, Act.put]
          go_wp2_with fail
          first | exact ⟨trivial, rfl, trivial, hS⟩ | exact ⟨rfl, trivial, hS⟩ | exact ⟨trivial, rfl, trivial⟩ | exact ⟨rfl, trivial⟩ | exact rfl
        · have k3 : vals 3 = .agg #[.bool (X k).on, .slice (some ⟨B k, 0, none⟩) (X k).n (X k).n, .int .i64 (X k).c, .int .i64 (X k).d] := hφ 3 (hd 3 (by decide))
          have k7 : vals 7 = .agg #[.bool (X k).on, .slice (some ⟨D k, 0, none⟩) (X k).n (X k).n, .int .i64 (X k).c, .int .i64 (X k).d] := hφ 7 (hd 7 (by decide))
          refine wpAt_of rfl rfl ?_
          simp only [frOf, Act.put]
          go_wp2_with fail
          refine (eqAbs _ _ _ _ _ _ _ _ _ hn1 (J1.next hS) (J2.next hS)).mono ?_
          rintro e W' ⟨rfl, hb⟩
          go_wp2_with fail
          first | exact ⟨trivial, rfl, trivial, blw hb hS⟩ | exact ⟨rfl, trivial, blw hb hS⟩ | exact ⟨trivial, rfl, trivial⟩ | exact ⟨rfl, trivial⟩ | exact rfl
        · have k8 : vals 8 = .bool true := hφ 8 (hd 8 (by decide))
          refine wpAt_of rfl rfl ?_
          simp only [frOf, Act.put]
          go_wp2_with fail
          first | exact ⟨trivial, rfl, trivial, hS⟩ | exact ⟨rfl, trivial, hS⟩ | exact ⟨trivial, rfl, trivial⟩ | exact ⟨rfl, trivial⟩ | exact rfl
      · intro L vals W hall hφ hS
        have k0 : vals 0 = .slice (some ⟨g, 0, none⟩) n n := hφ 0 (by decide)
        have k1 : vals 1 = .int .i64 k := hφ 1 (by decide)
        have k2 : vals 2 = .pointer (some ⟨g, k * 4, none⟩) := hφ 2 (by decide)
        have k3 : vals 3 = .agg #[.bool (X k).on, .slice (some ⟨B k, 0, none⟩) (X k).n (X k).n, .int .i64 (X k).c, .int .i64 (X k).d] := hφ 3 (by decide)
        have k4 : vals 4 = .slice (some ⟨h, 0, none⟩) n n := hφ 4 (by decide)
        have k5 : vals 5 = .int .i64 k := hφ 5 (by decide)
        have k6 : vals 6 = .pointer (some ⟨h, k * 4, none⟩) := hφ 6 (by decide)
        have k7 : vals 7 = .agg #[.bool (X k).on, .slice (some ⟨D k, 0, none⟩) (X k).n (X k).n, .int .i64 (X k).c, .int .i64 (X k).d] := hφ 7 (by decide)
        have k8 : vals 8 = .bool true := hφ 8 (by decide)
        have k9 : vals 9 = .bool false := hφ 9 (by decide)
        simp only [frOf, Act.put, List.setIfInBounds_toArray, List.set_cons_succ, List.set_cons_zero, k0, k1, k2, k3, k4, k5, k6, k7, k8, k9]
        clear k0 k1 k2 k3 k4 k5 k6 k7 k8 k9 hall hφ hS0
        go_wp2_with fail
        go_roundw
        case rel => exact ⟨k + 1, by omega, by go_num, hS⟩
        case measure => simp [intOf]; omega
    · obtain rfl : k = n := by omega
      clear h1 h2
      go_wp2_with fail
      go_ret
      exact ⟨rfl, hB⟩

set_option maxRecDepth 10000 in
set_option maxHeartbeats 8000000 in
theorem eqRows (g h n : Nat) (R : Nat → Rw) (C E : Nat → Nat) (B D : Nat → Nat → Nat) (w : World) (hbig : n ≤ 1048576) (hn : ∀ i, i < n → (R i).n ≤ 1048576 ∧ ∀ j, j < (R i).n → ((R i).x j).n ≤ 1048576) (h1 : RowsAt (some ⟨g, 0, none⟩) g 0 n R (ownR C B R) w) (h2 : RowsAt (some ⟨h, 0, none⟩) h 0 n R (ownR E D R) w) :
    Calls Try.prog 54 #[.slice (some ⟨g, 0, none⟩) n n, .slice (some ⟨h, 0, none⟩) n n] w fun e w' => e = .returned (.bool true) ∧ Below w.heap.size w w' := by
  go_enter Try.func54, Try.ntmps54
  go_wp2
  go_loopw [5] (fun i wr => ∃ k : Nat, k ≤ n ∧ i = .int .i64 k ∧ Below w.heap.size w wr) (fun i _ => n - (intOf i).toNat)
  case atStart => exact ⟨0, Nat.zero_le _, rfl, Below.refl _ _⟩
  case round =>
    obtain ⟨k, hk, rfl, hB⟩ := hrel
    by_cases hlt : k < n
    · have t1 : ((k : Int)).toNat = k := by omega
      have t2 : (0 : Int) ≤ (k : Int) := by omega
      have t3 : (k : Int) < (n : Int) := by omega
      have hS0 : Below w.heap.size w wr.drew := hB.drew
      clear hB
      have J1 : StsAt (some ⟨C k, 0, none⟩) (C k) 0 (R k).n (R k).x (ownS (B k) (R k).x) w := h1.row k hlt
      have J2 : StsAt (some ⟨E k, 0, none⟩) (E k) 0 (R k).n (R k).x (ownS (D k) (R k).x) w := h2.row k hlt
      obtain ⟨hn1, hn2⟩ := hn k hlt
      clear hn
      go_wp2_with fail
      refine region_inv3 [(0, 17), (1, 18), (2, 19), (3, 20), (4, 21), (5, 22), (6, 23), (7, 24), (8, 25), (9, 26)]
        (fun j v _ => match j with
          | 0 => Is (.slice (some ⟨g, 0, none⟩) n n) v
          | 1 => Is (.int .i64 k) v
          | 2 => Is (.pointer (some ⟨g, k, none⟩)) v
          | 3 => Is (.slice (some ⟨C k, 0, none⟩) (R k).n (R k).n) v
          | 4 => Is (.slice (some ⟨h, 0, none⟩) n n) v
          | 5 => Is (.int .i64 k) v
          | 6 => Is (.pointer (some ⟨h, k, none⟩)) v
          | 7 => Is (.slice (some ⟨E k, 0, none⟩) (R k).n (R k).n) v
          | 8 => Is (.bool true) v
          | 9 => Is (.bool false) v
          | _ => True)
        (fun _ W => Below w.heap.size w W) TT
        (by kernel_rfl) (by kernel_rfl) (by kernel_rfl) (by kernel_rfl) (by kernel_rfl) rfl hS0 (fun i j v W W' _ h _ => h) ?_ ?_
      · intro i L vals W hi' hφ hS hL hd
        have hi2 : i < 10 := hi'
        clear hi'
        rcases (show i = 0 ∨ i = 1 ∨ i = 2 ∨ i = 3 ∨ i = 4 ∨ i = 5 ∨ i = 6 ∨ i = 7 ∨ i = 8 ∨ i = 9 by omega) with rfl | rfl | rfl | rfl | rfl | rfl | rfl | rfl | rfl | rfl
        · refine wpAt_of rfl rfl ?_
          simp only [frOf, Act.put]
          go_wp2_with fail
          first | exact ⟨trivial, rfl, trivial, hS⟩ | exact ⟨rfl, trivial, hS⟩ | exact ⟨trivial, rfl, trivial⟩ | exact ⟨rfl, trivial⟩ | exact rfl
        · refine wpAt_of rfl rfl ?_
          simp only [frOf, Act.put]
          go_wp2_with fail
          first | exact ⟨trivial, rfl, trivial, hS⟩ | exact ⟨rfl, trivial, hS⟩ | exact ⟨trivial, rfl, trivial⟩ | exact ⟨rfl, trivial⟩ | exact rfl
        · have k0 : vals 0 = .slice (some ⟨g, 0, none⟩) n n := hφ 0 (hd 0 (by decide))
          have k1 : vals 1 = .int .i64 k := hφ 1 (hd 1 (by decide))
          refine wpAt_of rfl rfl ?_
          simp only [frOf, Act.put]
          go_wp2_with fail
          first | exact ⟨trivial, rfl, trivial, hS⟩ | exact ⟨rfl, trivial, hS⟩ | exact ⟨trivial, rfl, trivial⟩ | exact ⟨rfl, trivial⟩ | exact rfl
        · have k2 : vals 2 = .pointer (some ⟨g, k, none⟩) := hφ 2 (hd 2 (by decide))
          have d0 := (h1.next hS).cell k hlt
          dsimp only [ownR] at d0
          rw [Nat.zero_add] at d0
          refine wpAt_of rfl rfl ?_
          simp only [frOf, Act.put]
          go_wp2_with fail
          first | exact ⟨trivial, rfl, trivial, hS⟩ | exact ⟨rfl, trivial, hS⟩ | exact ⟨trivial, rfl, trivial⟩ | exact ⟨rfl, trivial⟩ | exact rfl
        · refine wpAt_of rfl rfl ?_
          simp only [frOf, Act.put]
          go_wp2_with fail
          first | exact ⟨trivial, rfl, trivial, hS⟩ | exact ⟨rfl, trivial, hS⟩ | exact ⟨trivial, rfl, trivial⟩ | exact ⟨rfl, trivial⟩ | exact rfl
        · refine wpAt_of rfl rfl ?_
          simp only [frOf, Act.put]
          go_wp2_with fail
          first | exact ⟨trivial, rfl, trivial, hS⟩ | exact ⟨rfl, trivial, hS⟩ | exact ⟨trivial, rfl, trivial⟩ | exact ⟨rfl, trivial⟩ | exact rfl
        · have k4 : vals 4 = .slice (some ⟨h, 0, none⟩) n n := hφ 4 (hd 4 (by decide))
          have k5 : vals 5 = .int .i64 k := hφ 5 (hd 5 (by decide))
          refine wpAt_of rfl rfl ?_
          simp only [frOf, Act.put]
          go_wp2_with fail
          first | exact ⟨trivial, rfl, trivial, hS⟩ | exact ⟨rfl, trivial, hS⟩ | exact ⟨trivial, rfl, trivial⟩ | exact ⟨rfl, trivial⟩ | exact rfl
        · have k6 : vals 6 = .pointer (some ⟨h, k, none⟩) := hφ 6 (hd 6 (by decide))
          have d0 := (h2.next hS).cell k hlt
          dsimp only [ownR] at d0
          rw [Nat.zero_add] at d0
          refine wpAt_of rfl rfl ?_
          simp only [frOf, Act.put]
          go_wp2_with fail
          first | exact ⟨trivial, rfl, trivial, hS⟩ | exact ⟨rfl, trivial, hS⟩ | exact ⟨trivial, rfl, trivial⟩ | exact ⟨rfl, trivial⟩ | exact rfl
        · have k3 : vals 3 = .slice (some ⟨C k, 0, none⟩) (R k).n (R k).n := hφ 3 (hd 3 (by decide))
          have k7 : vals 7 = .slice (some ⟨E k, 0, none⟩) (R k).n (R k).n := hφ 7 (hd 7 (by decide))
          refine wpAt_of rfl rfl ?_
          simp only [frOf, Act.put]
          go_wp2_with fail
          refine (eqSts _ _ _ _ _ _ _ hn1 hn2 (J1.next hS) (J2.next hS)).mono ?_
          rintro e W' ⟨rfl, hb⟩
          go_wp2_with fail
          first | exact ⟨trivial, rfl, trivial, blw hb hS⟩ | exact ⟨rfl, trivial, blw hb hS⟩ | exact ⟨trivial, rfl, trivial⟩ | exact ⟨rfl, trivial⟩ | exact rfl
        · have k8 : vals 8 = .bool true := hφ 8 (hd 8 (by decide))
          refine wpAt_of rfl rfl ?_
          simp only [frOf, Act.put]
          go_wp2_with fail
          first | exact ⟨trivial, rfl, trivial, hS⟩ | exact ⟨rfl, trivial, hS⟩ | exact ⟨trivial, rfl, trivial⟩ | exact ⟨rfl, trivial⟩ | exact rfl
      · intro L vals W hall hφ hS
        have k0 : vals 0 = .slice (some ⟨g, 0, none⟩) n n := hφ 0 (by decide)
        have k1 : vals 1 = .int .i64 k := hφ 1 (by decide)
        have k2 : vals 2 = .pointer (some ⟨g, k, none⟩) := hφ 2 (by decide)
        have k3 : vals 3 = .slice (some ⟨C k, 0, none⟩) (R k).n (R k).n := hφ 3 (by decide)
        have k4 : vals 4 = .slice (some ⟨h, 0, none⟩) n n := hφ 4 (by decide)
        have k5 : vals 5 = .int .i64 k := hφ 5 (by decide)
        have k6 : vals 6 = .pointer (some ⟨h, k, none⟩) := hφ 6 (by decide)
        have k7 : vals 7 = .slice (some ⟨E k, 0, none⟩) (R k).n (R k).n := hφ 7 (by decide)
        have k8 : vals 8 = .bool true := hφ 8 (by decide)
        have k9 : vals 9 = .bool false := hφ 9 (by decide)
        simp only [frOf, Act.put, List.setIfInBounds_toArray, List.set_cons_succ, List.set_cons_zero, k0, k1, k2, k3, k4, k5, k6, k7, k8, k9]
        clear k0 k1 k2 k3 k4 k5 k6 k7 k8 k9 hall hφ hS0
        go_wp2_with fail
        go_roundw
        case rel => exact ⟨k + 1, by omega, by go_num, hS⟩
        case measure => simp [intOf]; omega
    · obtain rfl : k = n := by omega
      clear h1 h2
      go_wp2_with fail
      go_ret
      exact ⟨rfl, hB⟩

set_option maxHeartbeats 2000000 in
theorem eqCert (g h g' h' m n : Nat) (R : Nat → Rw) (C E : Nat → Nat) (B D : Nat → Nat → Nat) (U : Nat → Sm) (w : World) (hm : m ≤ 1048576) (hn : ∀ i, i < m → (R i).n ≤ 1048576 ∧ ∀ j, j < (R i).n → ((R i).x j).n ≤ 1048576) (hn' : n ≤ 1048576) (h1 : RowsAt (some ⟨g, 0, none⟩) g 0 m R (ownR C B R) w) (h2 : RowsAt (some ⟨h, 0, none⟩) h 0 m R (ownR E D R) w) (u1 : SumsAt (some ⟨g', 0, none⟩) g' 0 n U w) (u2 : SumsAt (some ⟨h', 0, none⟩) h' 0 n U w) :
    Calls Try.prog 17 #[.agg #[.slice (some ⟨g, 0, none⟩) m m, .slice (some ⟨g', 0, none⟩) n n], .agg #[.slice (some ⟨h, 0, none⟩) m m, .slice (some ⟨h', 0, none⟩) n n]] w fun e w' => e = .returned (.bool true) ∧ Below w.heap.size w w' := by
  have H0 : HeldL w [(w.heap.size + 1, [Value.slice (some ⟨h, 0, none⟩) m m, .slice (some ⟨h', 0, none⟩) n n]), (w.heap.size, [Value.slice (some ⟨g, 0, none⟩) m m, .slice (some ⟨g', 0, none⟩) n n])] ((w.alloc (.cells #[.slice (some ⟨g, 0, none⟩) m m, .slice (some ⟨g', 0, none⟩) n n] 41)).alloc (.cells #[.slice (some ⟨h, 0, none⟩) m m, .slice (some ⟨h', 0, none⟩) n n] 41)) := by
    have e1 : w.heap.size + 1 = (w.alloc (.cells #[.slice (some ⟨g, 0, none⟩) m m, .slice (some ⟨g', 0, none⟩) n n] 41)).heap.size := by simp
    rw [e1]
    exact HeldL.newL (vs := [Value.slice (some ⟨h, 0, none⟩) m m, .slice (some ⟨h', 0, none⟩) n n]) (HeldL.newL (vs := [Value.slice (some ⟨g, 0, none⟩) m m, .slice (some ⟨g', 0, none⟩) n n]) (HeldL.nil w))
  have I1 := h1.next H0.below
  have I2 := h2.next H0.below
  clear h1 h2
  go_enter Try.func17, Try.ntmps17
  go_wp2_with fail
  refine (eqRows _ _ _ _ _ _ _ _ _ hm hn I1 I2).mono ?_
  rintro e w1 ⟨rfl, hb⟩
  have H1 := H0.next hb
  have J1 := u1.next H1.below
  have J2 := u2.next H1.below
  clear H0 I1 I2 hb u1 u2 hn
  have a1 := H1.cell (List.mem_cons_of_mem _ List.mem_cons_self) (i := 1) rfl
  have b1 := H1.cell List.mem_cons_self (i := 1) rfl
  dsimp only at a1 b1
  go_wp2_with fail
  refine (eqSums _ _ _ _ _ hn' J1 J2).mono ?_
  rintro e w2 ⟨rfl, hb⟩
  have H2 := H1.next hb
  clear H1 hb a1 b1 J1 J2
  go_wp2_with fail
  go_ret
  exact ⟨rfl, H2.below⟩
end Go.Proofs.Ytdpkbbbfnmneiaa
