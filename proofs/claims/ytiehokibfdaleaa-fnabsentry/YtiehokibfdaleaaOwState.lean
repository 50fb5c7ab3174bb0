/- Two states that are the same are held to be so by laws.owState. -/
import Derived.Test.YtiehokibfdaleaaExLaw
import Derived.Test.YtiehokibfdaleaaBnd
import Derived.Deep.QuietTactic
namespace Go.Proofs.Ytiehokibfdaleaa
open Go.ChangeShapes Go.WideShapes Go.ChangeAt Go.RowKit

set_option maxRecDepth 10000 in
set_option maxHeartbeats 8000000 in
theorem owStateT (on : Bool) (a : Option Addr) (g o n cap : Nat) (lo hi : Nat → Int) (c d : Int) (a' : Option Addr) (h o' cap' : Nat) (w : World) (h1 : BndsAt a g o n lo hi w) (h2 : BndsAt a' h o' n lo hi w) (hn : n ≤ 1048576) :
    Calls Try.prog 8 #[.agg #[.bool on, .slice a n cap, .int .i64 c, .int .i64 d], .agg #[.bool on, .slice a' n cap', .int .i64 c, .int .i64 d]] w fun e w' => e = .returned (.bool true) ∧ Below w.heap.size w w' := by
  have H : HeldL w [(w.heap.size + 1, [Value.bool on, .slice a' n cap', .int .i64 c, .int .i64 d]), (w.heap.size, [Value.bool on, .slice a n cap, .int .i64 c, .int .i64 d])] ((w.alloc (.cells #[.bool on, .slice a n cap, .int .i64 c, .int .i64 d] 27)).alloc (.cells #[.bool on, .slice a' n cap', .int .i64 c, .int .i64 d] 27)) := by
    have e1 : w.heap.size + 1 = (w.alloc (.cells #[.bool on, .slice a n cap, .int .i64 c, .int .i64 d] 27)).heap.size := by simp
    rw [e1]
    exact HeldL.newL (vs := [Value.bool on, .slice a' n cap', .int .i64 c, .int .i64 d]) (HeldL.newL (vs := [Value.bool on, .slice a n cap, .int .i64 c, .int .i64 d]) (HeldL.nil w))
  obtain ⟨Lb, hLb⟩ : ∃ L, L = [(w.heap.size + 1, [Value.bool on, .slice a' n cap', .int .i64 c, .int .i64 d]), (w.heap.size, [Value.bool on, .slice a n cap, .int .i64 c, .int .i64 d])] := ⟨_, rfl⟩
  have m0 : (w.heap.size, [Value.bool on, .slice a n cap, .int .i64 c, .int .i64 d]) ∈ Lb := by rw [hLb]; simp
  have m1 : (w.heap.size + 1, [Value.bool on, .slice a' n cap', .int .i64 c, .int .i64 d]) ∈ Lb := by rw [hLb]; simp
  rw [← hLb] at H
  clear hLb
  have I := h1.next H.below
  have J := h2.next H.below
  clear h1 h2
  go_enter Try.func8, Try.ntmps8
  go_wp2_with fail
  obtain ⟨X, hX⟩ : ∃ X, X = w.heap.size := ⟨_, rfl⟩
  obtain ⟨Y, hY⟩ : ∃ Y, Y = w.heap.size + 1 := ⟨_, rfl⟩
  rw [← hY, ← hX]
  rw [← hX] at m0
  rw [← hY] at m1
  have hXh : Hid (X = w.heap.size) := hX
  have hYh : Hid (Y = w.heap.size + 1) := hY
  clear hX hY
  go_loopw [5] (fun i wr => ∃ k : Nat, k ≤ n ∧ i = .int .i64 k ∧ HeldL w Lb wr ∧ BndsAt a g o n lo hi wr ∧ BndsAt a' h o' n lo hi wr) (fun i _ => n - (intOf i).toNat)
  case atStart => exact ⟨0, Nat.zero_le _, rfl, H, I, J⟩
  case round =>
    clear H I J
    obtain ⟨k, hk, rfl, H, hA, hB⟩ := hrel
    by_cases hlt : k < n
    · have ea := hA.at_ (by omega)
      have eb := hB.at_ (by omega)
      subst ea eb
      have t1 : ((k : Int)).toNat = k := by omega
      have t2 : (0 : Int) ≤ (k : Int) := by omega
      have t3 : (k : Int) < (n : Int) := by omega
      have c1 := H.cell m0 (i := 1) rfl
      dsimp only at c1
      have hS0 : HX w wr Lb wr.drew := ⟨H.drew, (Below.refl _ wr).drew⟩
      clear H
      go_wp2_with fail
      refine region_inv3 [(0, 34), (1, 35), (2, 36), (3, 37), (4, 38), (5, 39), (6, 40), (7, 41), (8, 42), (9, 43), (10, 44)]
        (fun j v _ => match j with
          | 0 => Is (.pointer (some ⟨X, 1, none⟩)) v
          | 1 => Is (.slice (some ⟨g, o, none⟩) n cap) v
          | 2 => Is (.int .i64 k) v
          | 3 => Is (.pointer (some ⟨g, o + k * 2, none⟩)) v
          | 4 => Is (.agg #[.int .i64 (lo k), .int .i64 (hi k)]) v
          | 5 => Is (.pointer (some ⟨Y, 1, none⟩)) v
          | 6 => Is (.slice (some ⟨h, o', none⟩) n cap') v
          | 7 => Is (.int .i64 k) v
          | 8 => Is (.pointer (some ⟨h, o' + k * 2, none⟩)) v
          | 9 => Is (.agg #[.int .i64 (lo k), .int .i64 (hi k)]) v
          | 10 => Is (.bool false) v
          | _ => True)
        (fun _ W => HX w wr Lb W) TT
        (by kernel_rfl) (by kernel_rfl) (by kernel_rfl) (by kernel_rfl) (by kernel_rfl) rfl hS0 (fun i j v W W' _ h _ => h) ?_ ?_
      · intro i L vals W hi' hφ hS hL hd
        have hi2 : i < 11 := hi'
        clear hi'
        rcases (show i = 0 ∨ i = 1 ∨ i = 2 ∨ i = 3 ∨ i = 4 ∨ i = 5 ∨ i = 6 ∨ i = 7 ∨ i = 8 ∨ i = 9 ∨ i = 10 by omega) with rfl | rfl | rfl | rfl | rfl | rfl | rfl | rfl | rfl | rfl | rfl
        · refine wpAt_of rfl rfl ?_
          simp only [frOf, Act.put]
          go_wp2_with fail
          first | exact ⟨trivial, rfl, trivial, hS⟩ | exact ⟨rfl, trivial, hS⟩ | exact ⟨trivial, rfl, trivial⟩ | exact ⟨rfl, trivial⟩ | exact rfl
        · have k0 : vals 0 = .pointer (some ⟨X, 1, none⟩) := hφ 0 (hd 0 (by decide))
          have c1 := hS.cell m0 (i := 1) rfl
          dsimp only at c1
          refine wpAt_of rfl rfl ?_
          simp only [frOf, Act.put]
          go_wp2_with fail
          first | exact ⟨trivial, rfl, trivial, hS⟩ | exact ⟨rfl, trivial, hS⟩ | exact ⟨trivial, rfl, trivial⟩ | exact ⟨rfl, trivial⟩ | exact rfl
        · refine wpAt_of rfl rfl ?_
          simp only [frOf, Act.put]
          go_wp2_with fail
          first | exact ⟨trivial, rfl, trivial, hS⟩ | exact ⟨rfl, trivial, hS⟩ | exact ⟨trivial, rfl, trivial⟩ | exact ⟨rfl, trivial⟩ | exact rfl
        · have k1 : vals 1 = .slice (some ⟨g, o, none⟩) n cap := hφ 1 (hd 1 (by decide))
          have k2 : vals 2 = .int .i64 k := hφ 2 (hd 2 (by decide))
          refine wpAt_of rfl rfl ?_
          simp only [frOf, Act.put]
          go_wp2_with fail
          first | exact ⟨trivial, rfl, trivial, hS⟩ | exact ⟨rfl, trivial, hS⟩ | exact ⟨trivial, rfl, trivial⟩ | exact ⟨rfl, trivial⟩ | exact rfl
        · have k3 : vals 3 = .pointer (some ⟨g, o + k * 2, none⟩) := hφ 3 (hd 3 (by decide))
          have I := hA.next hS.beh
          have c0 := I.lo k hlt
          have c1 := I.hi k hlt
          refine wpAt_of rfl rfl ?_
          simp only [frOf, Act.put]
          go_wp2_with fail
          first | exact ⟨trivial, rfl, trivial, hS⟩ | exact ⟨rfl, trivial, hS⟩ | exact ⟨trivial, rfl, trivial⟩ | exact ⟨rfl, trivial⟩ | exact rfl
        · refine wpAt_of rfl rfl ?_
          simp only [frOf, Act.put]
          go_wp2_with fail
          first | exact ⟨trivial, rfl, trivial, hS⟩ | exact ⟨rfl, trivial, hS⟩ | exact ⟨trivial, rfl, trivial⟩ | exact ⟨rfl, trivial⟩ | exact rfl
        · have k5 : vals 5 = .pointer (some ⟨Y, 1, none⟩) := hφ 5 (hd 5 (by decide))
          have c1 := hS.cell m1 (i := 1) rfl
          dsimp only at c1
          refine wpAt_of rfl rfl ?_
          simp only [frOf, Act.put]
          go_wp2_with fail
          first | exact ⟨trivial, rfl, trivial, hS⟩ | exact ⟨rfl, trivial, hS⟩ | exact ⟨trivial, rfl, trivial⟩ | exact ⟨rfl, trivial⟩ | exact rfl
        · refine wpAt_of rfl rfl ?_
          simp only [frOf, Act.put]
          go_wp2_with fail
          first | exact ⟨trivial, rfl, trivial, hS⟩ | exact ⟨rfl, trivial, hS⟩ | exact ⟨trivial, rfl, trivial⟩ | exact ⟨rfl, trivial⟩ | exact rfl
        · have k6 : vals 6 = .slice (some ⟨h, o', none⟩) n cap' := hφ 6 (hd 6 (by decide))
          have k7 : vals 7 = .int .i64 k := hφ 7 (hd 7 (by decide))
          refine wpAt_of rfl rfl ?_
          simp only [frOf, Act.put]
          go_wp2_with fail
          first | exact ⟨trivial, rfl, trivial, hS⟩ | exact ⟨rfl, trivial, hS⟩ | exact ⟨trivial, rfl, trivial⟩ | exact ⟨rfl, trivial⟩ | exact rfl
        · have k8 : vals 8 = .pointer (some ⟨h, o' + k * 2, none⟩) := hφ 8 (hd 8 (by decide))
          have I := hB.next hS.beh
          have c0 := I.lo k hlt
          have c1 := I.hi k hlt
          refine wpAt_of rfl rfl ?_
          simp only [frOf, Act.put]
          go_wp2_with fail
          first | exact ⟨trivial, rfl, trivial, hS⟩ | exact ⟨rfl, trivial, hS⟩ | exact ⟨trivial, rfl, trivial⟩ | exact ⟨rfl, trivial⟩ | exact rfl
        · have k4 : vals 4 = .agg #[.int .i64 (lo k), .int .i64 (hi k)] := hφ 4 (hd 4 (by decide))
          have k9 : vals 9 = .agg #[.int .i64 (lo k), .int .i64 (hi k)] := hφ 9 (hd 9 (by decide))
          refine wpAt_of rfl rfl ?_
          simp only [frOf, Act.put]
          go_wp2_with fail
          first | exact ⟨trivial, rfl, trivial, hS⟩ | exact ⟨rfl, trivial, hS⟩ | exact ⟨trivial, rfl, trivial⟩ | exact ⟨rfl, trivial⟩ | exact rfl
      · intro L vals W hall hφ hS
        have k0 : vals 0 = .pointer (some ⟨X, 1, none⟩) := hφ 0 (by decide)
        have k1 : vals 1 = .slice (some ⟨g, o, none⟩) n cap := hφ 1 (by decide)
        have k2 : vals 2 = .int .i64 k := hφ 2 (by decide)
        have k3 : vals 3 = .pointer (some ⟨g, o + k * 2, none⟩) := hφ 3 (by decide)
        have k4 : vals 4 = .agg #[.int .i64 (lo k), .int .i64 (hi k)] := hφ 4 (by decide)
        have k5 : vals 5 = .pointer (some ⟨Y, 1, none⟩) := hφ 5 (by decide)
        have k6 : vals 6 = .slice (some ⟨h, o', none⟩) n cap' := hφ 6 (by decide)
        have k7 : vals 7 = .int .i64 k := hφ 7 (by decide)
        have k8 : vals 8 = .pointer (some ⟨h, o' + k * 2, none⟩) := hφ 8 (by decide)
        have k9 : vals 9 = .agg #[.int .i64 (lo k), .int .i64 (hi k)] := hφ 9 (by decide)
        have k10 : vals 10 = .bool false := hφ 10 (by decide)
        simp only [frOf, Act.put, List.setIfInBounds_toArray, List.set_cons_succ, List.set_cons_zero, k0, k1, k2, k3, k4, k5, k6, k7, k8, k9, k10]
        clear k0 k1 k2 k3 k4 k5 k6 k7 k8 k9 k10 hall hφ hS0
        go_wp2_with fail
        go_roundw
        case rel => exact ⟨k + 1, by omega, by go_num, hS.1, hA.next hS.2, hB.next hS.2⟩
        case measure => simp [intOf]; omega
    · obtain rfl : k = n := by omega
      have c1 := H.cell m0 (i := 1) rfl
      dsimp only at c1
      go_wp2_with fail
      go_ret
      exact ⟨rfl, H.below⟩
end Go.Proofs.Ytiehokibfdaleaa
