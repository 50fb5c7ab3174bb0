/- The model's AbsWide of two states with something on both. · The model's AbsWide, every way. -/
import Derived.Test.YtiehokibfdaleaaDoorG18
import Derived.Test.YtiehokibfdaleaaDoorG9
import Derived.Test.YtiehokibfdaleaaDoorG19
import Derived.Test.YtiehokibfdaleaaDoorG11
namespace Go.Proofs.YtiehokibfdaleaaDoor
open Go.ChangeShapes Go.WideShapes Go.ChangeAt Go.RowKit
set_option linter.unusedVariables false
theorem rowL_len (F G : Nat → Int) : ∀ k, (rowL F G k).length = k * 2
  | 0 => rfl
  | k + 1 => by simp [rowL, rowL_len F G k]; omega
theorem rowL_at (F G : Nat → Int) {k n : Nat} (h : k < n) : (rowL F G n)[k * 2]? = some (.int .i64 (F k)) ∧ (rowL F G n)[k * 2 + 1]? = some (.int .i64 (G k)) := by
  induction n with
  | zero => omega
  | succ n ih =>
    by_cases e : k = n
    · subst e
      simp [rowL, rowL_len]
    · have h2 : k < n := by omega
      obtain ⟨h3, h4⟩ := ih h2
      have l := rowL_len F G n
      simp only [rowL]
      rw [List.getElem?_append_left (by omega), List.getElem?_append_left (by omega)]
      exact ⟨h3, h4⟩
set_option maxRecDepth 10000 in
set_option maxHeartbeats 16000000 in
theorem absWideS_t (b off cap : Nat) (lo hi : Nat → Int) (c d : Int) (b' off' cap' : Nat) (lo' hi' : Nat → Int) (c' d' : Int) (w : World) (F G : Nat → Int) (jc jd : Int) (hC : BndsAt (some ⟨b, off, none⟩) b off 4 lo hi w) (hD : BndsAt (some ⟨b', off', none⟩) b' off' 4 lo' hi' w)
    (g : absOk true 4 lo hi c d = true) (g' : absOk true 4 lo' hi' c' d' = true) (hF : ∀ k, wideLo (lo k) (hi k) (lo' k) (hi' k) = F k) (hG : ∀ k, wideHi (lo k) (hi k) (lo' k) (hi' k) = G k) (hjc : wideLo c d c' d' = jc) (hjd : wideHi c d c' d' = jd) :
    Calls Tryd.prog 7 #[.agg #[.bool true, .slice (some ⟨b, off, none⟩) 4 cap, .int .i64 c, .int .i64 d], .agg #[.bool true, .slice (some ⟨b', off', none⟩) 4 cap', .int .i64 c', .int .i64 d']] w fun e w' => ∃ v, e = .returned v ∧ StIs w.heap.size true 4 F G jc jd v w' ∧ Below w.heap.size w w' := by
  have hf : ∀ k W, Calls Tryd.prog 19 #[.agg #[.int .i64 (lo k), .int .i64 (hi k)], .agg #[.int .i64 (lo' k), .int .i64 (hi' k)]] W fun e w' => e = .returned (.agg #[.int .i64 (F k), .int .i64 (G k)]) ∧ Below W.heap.size W w' := fun k W => by
    rw [← hF, ← hG]; exact wideS _ _ _ _ W
  have hj : ∀ W, Calls Tryd.prog 19 #[.agg #[.int .i64 c, .int .i64 d], .agg #[.int .i64 c', .int .i64 d']] W fun e w' => e = .returned (.agg #[.int .i64 jc, .int .i64 jd]) ∧ Below W.heap.size W w' := fun W => by
    rw [← hjc, ← hjd]; exact wideS _ _ _ _ W
  clear hF hG hjc hjd
  have H : HeldL w ([(w.heap.size + 1 + 1, [Value.bool false, .slice none 0 0, .int .i64 0, .int .i64 0]), (w.heap.size + 1, [Value.bool true, .slice (some ⟨b', off', none⟩) 4 cap', .int .i64 c', .int .i64 d']), (w.heap.size, [Value.bool true, .slice (some ⟨b, off, none⟩) 4 cap, .int .i64 c, .int .i64 d])]) (((w.alloc (.cells #[.bool true, .slice (some ⟨b, off, none⟩) 4 cap, .int .i64 c, .int .i64 d] 27)).alloc (.cells #[.bool true, .slice (some ⟨b', off', none⟩) 4 cap', .int .i64 c', .int .i64 d'] 27)).alloc (.cells #[.bool false, .slice none 0 0, .int .i64 0, .int .i64 0] 27)) := by
    have e1 : w.heap.size + 1 = (w.alloc (.cells #[.bool true, .slice (some ⟨b, off, none⟩) 4 cap, .int .i64 c, .int .i64 d] 27)).heap.size := by simp
    have e2 : w.heap.size + 1 + 1 = ((w.alloc (.cells #[.bool true, .slice (some ⟨b, off, none⟩) 4 cap, .int .i64 c, .int .i64 d] 27)).alloc (.cells #[.bool true, .slice (some ⟨b', off', none⟩) 4 cap', .int .i64 c', .int .i64 d'] 27)).heap.size := by simp
    rw [e2, e1]
    exact HeldL.newL (vs := [Value.bool false, .slice none 0 0, .int .i64 0, .int .i64 0]) (HeldL.newL (vs := [Value.bool true, .slice (some ⟨b', off', none⟩) 4 cap', .int .i64 c', .int .i64 d']) (HeldL.newL (vs := [Value.bool true, .slice (some ⟨b, off, none⟩) 4 cap, .int .i64 c, .int .i64 d]) (HeldL.nil w)))
  obtain ⟨Lr, hLr⟩ : ∃ L, L = [(w.heap.size + 1 + 1, [Value.bool false, .slice none 0 0, .int .i64 0, .int .i64 0]), (w.heap.size + 1, [Value.bool true, .slice (some ⟨b', off', none⟩) 4 cap', .int .i64 c', .int .i64 d']), (w.heap.size, [Value.bool true, .slice (some ⟨b, off, none⟩) 4 cap, .int .i64 c, .int .i64 d])] := ⟨_, rfl⟩
  have hN1 : ∀ e ∈ Lr, e.1 < w.heap.size + 1 + 1 + 1 := by rw [hLr]; intro e he; simp at he; rcases he with rfl | rfl | rfl <;> dsimp only <;> omega
  have mA : (w.heap.size, [Value.bool true, .slice (some ⟨b, off, none⟩) 4 cap, .int .i64 c, .int .i64 d]) ∈ Lr := by rw [hLr]; simp
  have mB : (w.heap.size + 1, [Value.bool true, .slice (some ⟨b', off', none⟩) 4 cap', .int .i64 c', .int .i64 d']) ∈ Lr := by rw [hLr]; simp
  have mZ : (w.heap.size + 1 + 1, [Value.bool false, .slice none 0 0, .int .i64 0, .int .i64 0]) ∈ Lr := by rw [hLr]; simp
  rw [← hLr] at H
  clear hLr
  have hwN : w.heap.size ≤ w.heap.size + 1 + 1 + 1 := by omega
  go_enter Tryd.func7, Tryd.ntmps7
  go_wp2_with fail
  refine (absOkS _ _ _ _ _ _ _ _ _ _ _ (hC.next H.below)).mono ?_
  rintro e w1 ⟨rfl, hb⟩
  rw [g]
  replace H := H.next hb
  clear hb
  have x0 := H.cell mB (i := 0) rfl
  have x1 := H.cell mB (i := 1) rfl
  have x2 := H.cell mB (i := 2) rfl
  have x3 := H.cell mB (i := 3) rfl
  dsimp only at x0 x1 x2 x3
  go_wp2_with fail
  refine (absOkS _ _ _ _ _ _ _ _ _ _ _ (hD.next H.below)).mono ?_
  rintro e w2 ⟨rfl, hb⟩
  rw [g']
  replace H := H.next hb
  clear hb x0 x1 x2 x3
  have x0 := H.cell mA (i := 0) rfl
  have y0 := H.cell mB (i := 0) rfl
  have x2 := H.cell mA (i := 2) rfl
  have y2 := H.cell mB (i := 2) rfl
  have x3 := H.cell mA (i := 3) rfl
  have y3 := H.cell mB (i := 3) rfl
  dsimp only at x0 y0 x2 x3 y2 y3
  go_wp2_with fail
  refine (hj _).mono ?_
  rintro e w3 ⟨rfl, hb⟩
  replace H := H.next hb
  clear hb x0 y0 x2 x3 y2 y3 hj
  have hb1 : w.heap.size + 1 + 1 + 1 ≤ w3.heap.size := H.size mZ
  go_wp2_with fail
  replace H := H.newL (t := 27) (vs := [Value.bool true, .slice none 0 0, .int .i64 jc, .int .i64 jd])
  obtain ⟨X, hX⟩ : ∃ X, X = w3.heap.size := ⟨_, rfl⟩
  rw [← hX] at H hb1 ⊢
  clear hX
  have hwX : w.heap.size ≤ X := Nat.le_trans hwN hb1
  have ltX : ∀ e ∈ Lr, e.1 < X := fun e he => Nat.lt_of_lt_of_le (hN1 e he) hb1
  have ne0 : ∀ e ∈ Lr, e.1 ≠ X := fun e he => Nat.ne_of_lt (ltX e he)
  go_loopw [6] (fun i wr => ∃ (k : Nat) (cv : Value), k ≤ 4 ∧ i = .int .i64 k ∧ HeldL w ((X, [Value.bool true, cv, .int .i64 jc, .int .i64 jd]) :: Lr) wr ∧ wr.ownsRow (X + 1) 25 2 cv k (rowL F G k)) (fun i _ => 4 - (intOf i).toNat)
  case atStart => exact ⟨0, _, Nat.zero_le _, rfl, H, World.ownsRow_nil _ _ _ _⟩
  case round =>
    clear H
    obtain ⟨k, cv, hk, rfl, H, O⟩ := hrel
    by_cases hlt : k < 4
    · have t1 : ((k : Int)).toNat = k := by omega
      have t2 : (0 : Int) ≤ (k : Int) := by omega
      have t3 : (k : Int) < 4 := by omega
      have hS0 : ∀ vals, JoS w X Lr cv k F G jc jd (fun _ => false) vals wr.drew := fun _ => ⟨H.size List.mem_cons_self, ltX, fun _ => H.drew, (fun e => by cases e), fun _ => O, (fun e => by cases e), (fun e => by cases e), (fun e => by cases e), (fun e => by cases e)⟩
      clear H O
      go_wp2_with fail
      refine region_inv4 [(0, 36), (1, 37), (2, 38), (3, 39), (4, 40), (5, 41), (6, 42), (7, 43), (8, 44), (9, 45), (10, 46), (11, 47), (12, 48), (13, 49), (14, 50), (15, 51)]
        (fun j v => match j with
          | 0 => Is (.pointer (some ⟨X, 1, none⟩)) v
          | 1 => Is (cv) v
          | 2 => Is (.pointer (some ⟨w.heap.size, 1, none⟩)) v
          | 3 => Is (.slice (some ⟨b, off, none⟩) 4 cap) v
          | 4 => Is (.int .i64 k) v
          | 5 => Is (.pointer (some ⟨b, off + k * 2, none⟩)) v
          | 6 => Is (.agg #[.int .i64 (lo k), .int .i64 (hi k)]) v
          | 7 => Is (.pointer (some ⟨w.heap.size + 1, 1, none⟩)) v
          | 8 => Is (.slice (some ⟨b', off', none⟩) 4 cap') v
          | 9 => Is (.int .i64 k) v
          | 10 => Is (.pointer (some ⟨b', off' + k * 2, none⟩)) v
          | 11 => Is (.agg #[.int .i64 (lo' k), .int .i64 (hi' k)]) v
          | 12 => Is (.agg #[.int .i64 (F k), .int .i64 (G k)]) v
          | 15 => Is (.pointer (some ⟨X, 1, none⟩)) v
          | _ => True)
        (fun L vals W => JoS w X Lr cv k F G jc jd L vals W)
        (by kernel_rfl) (by kernel_rfl) (by kernel_rfl) (by kernel_rfl) (by kernel_rfl) rfl hS0 ?_ ?_
      · intro i L vals W hi' hφ hS hL hd
        have hi2 : i < 17 := hi'
        clear hi' hS0
        rcases (show i = 0 ∨ i = 1 ∨ i = 2 ∨ i = 3 ∨ i = 4 ∨ i = 5 ∨ i = 6 ∨ i = 7 ∨ i = 8 ∨ i = 9 ∨ i = 10 ∨ i = 11 ∨ i = 12 ∨ i = 13 ∨ i = 14 ∨ i = 15 ∨ i = 16 by omega) with rfl | rfl | rfl | rfl | rfl | rfl | rfl | rfl | rfl | rfl | rfl | rfl | rfl | rfl | rfl | rfl | rfl
        · refine wpAt_of rfl rfl ?_
          simp only [frOf, Act.put]
          go_wp2_with fail
          first | exact ⟨trivial, rfl, hS.pure (by decide) (by decide) (by decide) (by decide)⟩ | exact ⟨rfl, hS.pure (by decide) (by decide) (by decide) (by decide)⟩
        · have k0 : vals 0 = .pointer (some ⟨X, 1, none⟩) := hφ 0 (hd 0 (by decide))
          have hH := hS.before (hS.no1 hL)
          have x1 := hH.cell List.mem_cons_self (i := 1) rfl
          dsimp only at x1
          refine wpAt_of rfl rfl ?_
          simp only [frOf, Act.put]
          go_wp2_with fail
          first | exact ⟨trivial, rfl, hS.pure (by decide) (by decide) (by decide) (by decide)⟩ | exact ⟨rfl, hS.pure (by decide) (by decide) (by decide) (by decide)⟩
        · refine wpAt_of rfl rfl ?_
          simp only [frOf, Act.put]
          go_wp2_with fail
          first | exact ⟨trivial, rfl, hS.pure (by decide) (by decide) (by decide) (by decide)⟩ | exact ⟨rfl, hS.pure (by decide) (by decide) (by decide) (by decide)⟩
        · have k2 : vals 2 = .pointer (some ⟨w.heap.size, 1, none⟩) := hφ 2 (hd 2 (by decide))
          have x1 := hS.cell mA (i := 1) rfl
          dsimp only at x1
          refine wpAt_of rfl rfl ?_
          simp only [frOf, Act.put]
          go_wp2_with fail
          first | exact ⟨trivial, rfl, hS.pure (by decide) (by decide) (by decide) (by decide)⟩ | exact ⟨rfl, hS.pure (by decide) (by decide) (by decide) (by decide)⟩
        · refine wpAt_of rfl rfl ?_
          simp only [frOf, Act.put]
          go_wp2_with fail
          first | exact ⟨trivial, rfl, hS.pure (by decide) (by decide) (by decide) (by decide)⟩ | exact ⟨rfl, hS.pure (by decide) (by decide) (by decide) (by decide)⟩
        · have k3 : vals 3 = .slice (some ⟨b, off, none⟩) 4 cap := hφ 3 (hd 3 (by decide))
          have k4 : vals 4 = .int .i64 k := hφ 4 (hd 4 (by decide))
          refine wpAt_of rfl rfl ?_
          simp only [frOf, Act.put]
          go_wp2_with fail
          first | exact ⟨trivial, rfl, hS.pure (by decide) (by decide) (by decide) (by decide)⟩ | exact ⟨rfl, hS.pure (by decide) (by decide) (by decide) (by decide)⟩
        · have k5 : vals 5 = .pointer (some ⟨b, off + k * 2, none⟩) := hφ 5 (hd 5 (by decide))
          have dd := hC.next hS.below
          have d0 := dd.lo k hlt
          have d1 := dd.hi k hlt
          clear dd
          refine wpAt_of rfl rfl ?_
          simp only [frOf, Act.put]
          go_wp2_with fail
          first | exact ⟨trivial, rfl, hS.pure (by decide) (by decide) (by decide) (by decide)⟩ | exact ⟨rfl, hS.pure (by decide) (by decide) (by decide) (by decide)⟩
        · refine wpAt_of rfl rfl ?_
          simp only [frOf, Act.put]
          go_wp2_with fail
          first | exact ⟨trivial, rfl, hS.pure (by decide) (by decide) (by decide) (by decide)⟩ | exact ⟨rfl, hS.pure (by decide) (by decide) (by decide) (by decide)⟩
        · have k7 : vals 7 = .pointer (some ⟨w.heap.size + 1, 1, none⟩) := hφ 7 (hd 7 (by decide))
          have x1 := hS.cell mB (i := 1) rfl
          dsimp only at x1
          refine wpAt_of rfl rfl ?_
          simp only [frOf, Act.put]
          go_wp2_with fail
          first | exact ⟨trivial, rfl, hS.pure (by decide) (by decide) (by decide) (by decide)⟩ | exact ⟨rfl, hS.pure (by decide) (by decide) (by decide) (by decide)⟩
        · refine wpAt_of rfl rfl ?_
          simp only [frOf, Act.put]
          go_wp2_with fail
          first | exact ⟨trivial, rfl, hS.pure (by decide) (by decide) (by decide) (by decide)⟩ | exact ⟨rfl, hS.pure (by decide) (by decide) (by decide) (by decide)⟩
        · have k8 : vals 8 = .slice (some ⟨b', off', none⟩) 4 cap' := hφ 8 (hd 8 (by decide))
          have k9 : vals 9 = .int .i64 k := hφ 9 (hd 9 (by decide))
          refine wpAt_of rfl rfl ?_
          simp only [frOf, Act.put]
          go_wp2_with fail
          first | exact ⟨trivial, rfl, hS.pure (by decide) (by decide) (by decide) (by decide)⟩ | exact ⟨rfl, hS.pure (by decide) (by decide) (by decide) (by decide)⟩
        · have k10 : vals 10 = .pointer (some ⟨b', off' + k * 2, none⟩) := hφ 10 (hd 10 (by decide))
          have dd := hD.next hS.below
          have d0 := dd.lo k hlt
          have d1 := dd.hi k hlt
          clear dd
          refine wpAt_of rfl rfl ?_
          simp only [frOf, Act.put]
          go_wp2_with fail
          first | exact ⟨trivial, rfl, hS.pure (by decide) (by decide) (by decide) (by decide)⟩ | exact ⟨rfl, hS.pure (by decide) (by decide) (by decide) (by decide)⟩
        · have k6 : vals 6 = .agg #[.int .i64 (lo k), .int .i64 (hi k)] := hφ 6 (hd 6 (by decide))
          have k11 : vals 11 = .agg #[.int .i64 (lo' k), .int .i64 (hi' k)] := hφ 11 (hd 11 (by decide))
          refine wpAt_of rfl rfl ?_
          simp only [frOf, Act.put]
          go_wp2_with fail
          refine (hf k _).mono ?_
          rintro e W' ⟨rfl, hb⟩
          go_wp2_with fail
          first | exact ⟨trivial, rfl, (hS.next hb).pure (by decide) (by decide) (by decide) (by decide)⟩ | exact ⟨rfl, (hS.next hb).pure (by decide) (by decide) (by decide) (by decide)⟩
        · have k12 : vals 12 = .agg #[.int .i64 (F k), .int .i64 (G k)] := hφ 12 (hd 12 (by decide))
          have hb : Below W.heap.size W (W.alloc (.cells #[.int .i64 (F k), .int .i64 (G k)] 25)) := (Below.refl _ _).alloc (Nat.le_refl _) _
          have hNew : NewP [.int .i64 (F k), .int .i64 (G k)] (.slice (some ⟨W.heap.size, 0, none⟩) 1 1) (W.alloc (.cells #[.int .i64 (F k), .int .i64 (G k)] 25)) := ⟨W.heap.size, rfl, by simp, fun j u hu => by unfold World.cell?; rw [heap_alloc_new]; simpa using hu⟩
          refine wpAt_of rfl rfl ?_
          simp only [frOf, Act.put]
          go_wp2_with fail
          first | exact ⟨trivial, trivial, (hS.next hb).made hNew⟩ | exact ⟨trivial, (hS.next hb).made hNew⟩ | exact (hS.next hb).made hNew
        · have k1 : vals 1 = cv := hφ 1 (hd 1 (by decide))
          obtain ⟨g9, k13, lt9, c9⟩ : NewP [.int .i64 (F k), .int .i64 (G k)] (vals 13) W := hS.new (hd 13 (by decide)) hL
          have ow := hS.own0 hL
          obtain ⟨i0, hi0, hzz⟩ := Option.map_eq_some_iff.1 infoB
          simp only [Prod.mk.injEq] at hzz
          obtain ⟨hz0, hz1, hz2⟩ := hzz
          refine wpAt_own_append2 rfl rfl rfl (by simp only [frOf, Act.put]; simp) (.tmp 37) (.tmp 49) 23 rfl (X + 1) 25 i0 (.agg #[.int .i64 0, .int .i64 0]) 2 16 Tryd.underlying23 hi0 hz0 hz1 hz2 rfl (by decide) _ _ _ (by simp only [frOf, Act.put, List.setIfInBounds_toArray, List.set_cons_succ, List.set_cons_zero]; exact k1) ow ⟨g9, 0, none⟩ 1 1 [.int .i64 (F k), .int .i64 (G k)] (by simp only [frOf, Act.put, List.setIfInBounds_toArray, List.set_cons_succ, List.set_cons_zero]; exact k13) rfl (fun j u hu => by rw [addr_mk, Nat.zero_add]; exact c9 j u hu) (by simp [Value.oneCell']) (by simp [maxLen]; omega) (by omega) hS.big ?_
          intro v' w' r1 r2
          exact ⟨trivial, hS.app hwX hL (hd 1 (by decide)) r1 r2⟩
        · refine wpAt_of rfl rfl ?_
          simp only [frOf, Act.put]
          go_wp2_with fail
          first | exact ⟨trivial, rfl, hS.pure (by decide) (by decide) (by decide) (by decide)⟩ | exact ⟨rfl, hS.pure (by decide) (by decide) (by decide) (by decide)⟩
        · have k15 : vals 15 = .pointer (some ⟨X, 1, none⟩) := hφ 15 (hd 15 (by decide))
          obtain ⟨g5, c5, k14⟩ := hS.val (hd 14 (by decide))
          have hH := hS.before hL
          have r1 := hH.cell List.mem_cons_self (i := 1) rfl
          have fr := hH.free _ List.mem_cons_self
          dsimp only at r1 fr
          have hH' := HeldL.putI (i := 1) (x := .slice (some ⟨g5, 0, none⟩) (k + 1) c5) hwX ne0 hH (by simp)
          simp only [List.set_cons_succ, List.set_cons_zero] at hH'
          rw [← k14] at hH'
          have fin := fun u => hS.sto (u := u) (hd 14 (by decide)) hH'
          rw [k14] at fin
          refine wpAt_none rfl rfl ?_
          simp only [frOf, Act.put]
          go_wp2_with fail
          first | exact ⟨trivial, trivial, fin _⟩ | exact ⟨trivial, fin _⟩ | exact fin _
      · intro L vals W hall hφ hS
        have O' := hS.own1 (hall 14 (by decide))
        have H' := hS.after (hall 16 (by decide))
        obtain ⟨cw, hcw⟩ : ∃ x, x = vals 14 := ⟨_, rfl⟩
        rw [← hcw] at O' H'
        clear hS0 hS hφ hall
        simp only [frOf, Act.put, List.setIfInBounds_toArray, List.set_cons_succ, List.set_cons_zero]
        go_wp2_with fail
        go_roundw
        case rel => exact ⟨k + 1, cw, by omega, by go_num, H', O'⟩
        case measure => simp [intOf]; omega
    · obtain rfl : k = 4 := by omega
      have O0 := O
      rcases O.2 with ⟨_, h0⟩ | ⟨gb, gc, cur, rfl, hg1, hg2, _⟩
      · omega
      have hX1 := ltX _ mZ
      dsimp only at hX1
      have H2 : HeldL w ((w.heap.size + 1 + 1, [Value.bool false, .slice none 0 0, .int .i64 0, .int .i64 0]) :: [(X, [Value.bool true, .slice (some ⟨gb, 0, none⟩) 4 gc, .int .i64 jc, .int .i64 jd])]) wr := H.sub (fun e he => by
        simp only [List.mem_cons, List.not_mem_nil, or_false] at he
        rcases he with rfl | rfl
        · exact List.mem_cons_of_mem _ mZ
        · exact List.mem_cons_self)
      have ne1 : ∀ e ∈ [(X, [Value.bool true, .slice (some ⟨gb, 0, none⟩) 4 gc, .int .i64 jc, .int .i64 jd])], e.1 ≠ w.heap.size + 1 + 1 := by
        intro e he; simp only [List.mem_singleton] at he; subst he; dsimp only; omega
      have r0 := H2.cell (List.mem_cons_of_mem _ List.mem_cons_self) (i := 0) rfl
      have r1 := H2.cell (List.mem_cons_of_mem _ List.mem_cons_self) (i := 1) rfl
      have r2 := H2.cell (List.mem_cons_of_mem _ List.mem_cons_self) (i := 2) rfl
      have r3 := H2.cell (List.mem_cons_of_mem _ List.mem_cons_self) (i := 3) rfl
      have z0 := H2.cell List.mem_cons_self (i := 0) rfl
      have z1 := H2.cell List.mem_cons_self (i := 1) rfl
      have z2 := H2.cell List.mem_cons_self (i := 2) rfl
      have z3 := H2.cell List.mem_cons_self (i := 3) rfl
      have fr := H2.free _ List.mem_cons_self
      dsimp only at r0 r1 r2 r3 z0 z1 z2 z3 fr
      have hH' := HeldL.putCells (by omega) ne1 [.bool true, .slice (some ⟨gb, 0, none⟩) 4 gc, .int .i64 jc, .int .i64 jd] 0 [Value.bool false, .slice none 0 0, .int .i64 0, .int .i64 0] wr H2 (by simp)
      simp only [putL, List.set_cons_succ, List.set_cons_zero] at hH'
      have fz : ∀ i, wr.frozen? ⟨gb, i, none⟩ = false := fun i => by unfold World.frozen?; simp [hg2]
      have B0 : BndsIs (X + 1) 4 F G (some ⟨gb, 0, none⟩) gb wr := ⟨fun _ => hg1, fun _ i => fz i, ⟨fun _ => rfl, fun _ => (World.ownsRow.lt O0 gb rfl).2, fun k hk => by rw [World.ownsRow.cellAt O0 _ (by omega)]; simpa using (rowL_at F G hk).1, fun k hk => by rw [World.ownsRow.cellAt O0 _ (by omega)]; simpa using (rowL_at F G hk).2⟩⟩
      have B1 := B0.set (G := w.heap.size + 1 + 1) (o := 0) (vs := [.bool true, .slice (some ⟨gb, 0, none⟩) 4 gc, .int .i64 jc, .int .i64 jd]) (by omega)
      clear B0 H H2 O O0 hC hD hf
      go_wp2_with fail
      show bodyPost _ _ _ _ _ (setAll (w.heap.size + 1 + 1) 0 [.bool true, .slice (some ⟨gb, 0, none⟩) 4 gc, .int .i64 jc, .int .i64 jd] wr)
      obtain ⟨W, hW⟩ : ∃ W, W = setAll (w.heap.size + 1 + 1) 0 [.bool true, .slice (some ⟨gb, 0, none⟩) 4 gc, .int .i64 jc, .int .i64 jd] wr := ⟨_, rfl⟩
      replace hH' : HeldL w ((w.heap.size + 1 + 1, [Value.bool true, .slice (some ⟨gb, 0, none⟩) 4 gc, .int .i64 jc, .int .i64 jd]) :: [(X, [Value.bool true, .slice (some ⟨gb, 0, none⟩) 4 gc, .int .i64 jc, .int .i64 jd])]) (setAll (w.heap.size + 1 + 1) 0 [.bool true, .slice (some ⟨gb, 0, none⟩) 4 gc, .int .i64 jc, .int .i64 jd] wr) := hH'
      rw [← hW] at hH' B1 ⊢
      clear hW r0 r1 r2 r3 z0 z1 z2 z3 fr
      have r0 := hH'.cell List.mem_cons_self (i := 0) rfl
      have r1 := hH'.cell List.mem_cons_self (i := 1) rfl
      have r2 := hH'.cell List.mem_cons_self (i := 2) rfl
      have r3 := hH'.cell List.mem_cons_self (i := 3) rfl
      dsimp only at r0 r1 r2 r3
      refine bodyPost_ret (v := .agg #[.bool true, .slice (some ⟨gb, 0, none⟩) 4 gc, .int .i64 jc, .int .i64 jd]) (by simp [results, Tryd.results7, go_sem, r0, r1, r2, r3]) rfl ⟨_, rfl, ⟨some ⟨gb, 0, none⟩, gb, gc, rfl, B1.base (by omega)⟩, hH'.below⟩
end Go.Proofs.YtiehokibfdaleaaDoor
namespace Go.Proofs.YtiehokibfdaleaaDoor
open Go.ChangeShapes Go.WideShapes Go.ChangeAt Go.RowKit
set_option linter.unusedVariables false
theorem StIs.congr {B : Nat} {on : Bool} {n : Nat} {lo hi lo2 hi2 : Nat → Int} {c d : Int} {v : Value} {W : World} (h : StIs B on n lo hi c d v W) (h1 : ∀ k, k < n → lo k = lo2 k) (h2 : ∀ k, k < n → hi k = hi2 k) : StIs B on n lo2 hi2 c d v W := by
  obtain ⟨a, g, cap, e, hB⟩ := h
  exact ⟨a, g, cap, e, hB.own, hB.free, hB.at_.at_, hB.at_.lt, fun k hk => (hB.at_.lo k hk).trans (by rw [h1 k hk]), fun k hk => (hB.at_.hi k hk).trans (by rw [h2 k hk])⟩
theorem copyX (on : Bool) (a : Option Addr) (b off n cap : Nat) (lo hi : Nat → Int) (c d : Int) (w : World) (g : absOk on n lo hi c d = true) (hC : BndsAt a b off n lo hi w) :
    Calls Tryd.prog 18 #[.agg #[.bool on, .slice a n cap, .int .i64 c, .int .i64 d]] w fun e w' => ∃ v, e = .returned v ∧ StIs w.heap.size on n lo hi c d v w' ∧ Below w.heap.size w w' := by
  cases on
  · obtain ⟨rfl, rfl, rfl⟩ : n = 0 ∧ c = 0 ∧ d = 0 := by simp [absOk] at g; exact g
    refine (copyF a 0 cap 0 0 w).mono ?_
    rintro e w' ⟨rfl, hb⟩
    exact ⟨_, rfl, ⟨none, 0, 0, rfl, BndsIs.nil0 _ _ _ _⟩, hb⟩
  · obtain rfl : n = 4 := by simp [absOk] at g; exact g.1
    obtain rfl := hC.at_ (by omega)
    exact copyT b off cap lo hi c d w hC
set_option maxRecDepth 10000 in
set_option maxHeartbeats 16000000 in
theorem absWideS_0 (on : Bool) (a : Option Addr) (b off n cap : Nat) (lo hi : Nat → Int) (c d : Int) (on' : Bool) (a' : Option Addr) (b' off' n' cap' : Nat) (lo' hi' : Nat → Int) (c' d' : Int) (w : World) (hC : BndsAt a b off n lo hi w) (hD : BndsAt a' b' off' n' lo' hi' w) (g : absOk on n lo hi c d = false) :
    Calls Tryd.prog 7 #[.agg #[.bool on, .slice a n cap, .int .i64 c, .int .i64 d], .agg #[.bool on', .slice a' n' cap', .int .i64 c', .int .i64 d']] w fun e w' => ∃ v, e = .returned v ∧ StIs w.heap.size false 0 (fun _ => 0) (fun _ => 0) 0 0 v w' ∧ Below w.heap.size w w' := by
  have H : HeldL w ((w.heap.size + 1 + 1, [Value.bool false, .slice none 0 0, .int .i64 0, .int .i64 0]) :: [(w.heap.size + 1, [Value.bool on', .slice a' n' cap', .int .i64 c', .int .i64 d']), (w.heap.size, [Value.bool on, .slice a n cap, .int .i64 c, .int .i64 d])]) (((w.alloc (.cells #[.bool on, .slice a n cap, .int .i64 c, .int .i64 d] 27)).alloc (.cells #[.bool on', .slice a' n' cap', .int .i64 c', .int .i64 d'] 27)).alloc (.cells #[.bool false, .slice none 0 0, .int .i64 0, .int .i64 0] 27)) := by
    have e1 : w.heap.size + 1 = (w.alloc (.cells #[.bool on, .slice a n cap, .int .i64 c, .int .i64 d] 27)).heap.size := by simp
    have e2 : w.heap.size + 1 + 1 = ((w.alloc (.cells #[.bool on, .slice a n cap, .int .i64 c, .int .i64 d] 27)).alloc (.cells #[.bool on', .slice a' n' cap', .int .i64 c', .int .i64 d'] 27)).heap.size := by simp
    rw [e2, e1]
    exact HeldL.newL (vs := [Value.bool false, .slice none 0 0, .int .i64 0, .int .i64 0]) (HeldL.newL (vs := [Value.bool on', .slice a' n' cap', .int .i64 c', .int .i64 d']) (HeldL.newL (vs := [Value.bool on, .slice a n cap, .int .i64 c, .int .i64 d]) (HeldL.nil w)))
  obtain ⟨Lr, hLr⟩ : ∃ L, L = [(w.heap.size + 1, [Value.bool on', .slice a' n' cap', .int .i64 c', .int .i64 d']), (w.heap.size, [Value.bool on, .slice a n cap, .int .i64 c, .int .i64 d])] := ⟨_, rfl⟩
  have ne0 : ∀ e ∈ Lr, e.1 ≠ w.heap.size + 1 + 1 := by rw [hLr]; intro e he; simp at he; rcases he with rfl | rfl <;> dsimp only <;> omega
  have mA : (w.heap.size, [Value.bool on, .slice a n cap, .int .i64 c, .int .i64 d]) ∈ Lr := by rw [hLr]; simp
  have mB : (w.heap.size + 1, [Value.bool on', .slice a' n' cap', .int .i64 c', .int .i64 d']) ∈ Lr := by rw [hLr]; simp
  rw [← hLr] at H
  clear hLr
  go_enter Tryd.func7, Tryd.ntmps7
  go_wp2_with fail
  refine (absOkS _ _ _ _ _ _ _ _ _ _ _ (hC.next H.below)).mono ?_
  rintro e w1 ⟨rfl, hb⟩
  rw [g]
  replace H := H.next hb
  clear hb
  have z0 := H.cell List.mem_cons_self (i := 0) rfl
  have z1 := H.cell List.mem_cons_self (i := 1) rfl
  have z2 := H.cell List.mem_cons_self (i := 2) rfl
  have z3 := H.cell List.mem_cons_self (i := 3) rfl
  have fr := H.free _ List.mem_cons_self
  dsimp only at z0 z1 z2 z3 fr
  have hH' : HeldL w ((w.heap.size + 1 + 1, [Value.bool false, .slice none 0 0, .int .i64 0, .int .i64 0]) :: Lr) (setAll (w.heap.size + 1 + 1) 0 [.bool false, .slice none 0 0, .int .i64 0, .int .i64 0] w1) := by
    have h := HeldL.putCells (by omega) ne0 [.bool false, .slice none 0 0, .int .i64 0, .int .i64 0] 0 [Value.bool false, .slice none 0 0, .int .i64 0, .int .i64 0] w1 H (by simp)
    simp only [putL, List.set_cons_succ, List.set_cons_zero] at h
    exact h
  clear H hC hD
  go_wp2_with fail
  show bodyPost _ _ _ _ _ (setAll (w.heap.size + 1 + 1) 0 [.bool false, .slice none 0 0, .int .i64 0, .int .i64 0] w1)
  obtain ⟨W, hW⟩ : ∃ W, W = setAll (w.heap.size + 1 + 1) 0 [.bool false, .slice none 0 0, .int .i64 0, .int .i64 0] w1 := ⟨_, rfl⟩
  rw [← hW] at hH' ⊢
  clear hW z0 z1 z2 z3 fr
  have r0 := hH'.cell List.mem_cons_self (i := 0) rfl
  have r1 := hH'.cell List.mem_cons_self (i := 1) rfl
  have r2 := hH'.cell List.mem_cons_self (i := 2) rfl
  have r3 := hH'.cell List.mem_cons_self (i := 3) rfl
  dsimp only at r0 r1 r2 r3
  refine bodyPost_ret (v := .agg #[.bool false, .slice none 0 0, .int .i64 0, .int .i64 0]) (by simp [results, Tryd.results7, go_sem, r0, r1, r2, r3]) rfl ⟨_, rfl, ⟨none, 0, 0, rfl, BndsIs.nil0 _ _ _ _⟩, hH'.below⟩
set_option maxRecDepth 10000 in
set_option maxHeartbeats 16000000 in
theorem absWideS_1 (on : Bool) (a : Option Addr) (b off n cap : Nat) (lo hi : Nat → Int) (c d : Int) (on' : Bool) (a' : Option Addr) (b' off' n' cap' : Nat) (lo' hi' : Nat → Int) (c' d' : Int) (w : World) (hC : BndsAt a b off n lo hi w) (hD : BndsAt a' b' off' n' lo' hi' w) (g : absOk on n lo hi c d = true) (g' : absOk on' n' lo' hi' c' d' = false) :
    Calls Tryd.prog 7 #[.agg #[.bool on, .slice a n cap, .int .i64 c, .int .i64 d], .agg #[.bool on', .slice a' n' cap', .int .i64 c', .int .i64 d']] w fun e w' => ∃ v, e = .returned v ∧ StIs w.heap.size false 0 (fun _ => 0) (fun _ => 0) 0 0 v w' ∧ Below w.heap.size w w' := by
  have H : HeldL w ((w.heap.size + 1 + 1, [Value.bool false, .slice none 0 0, .int .i64 0, .int .i64 0]) :: [(w.heap.size + 1, [Value.bool on', .slice a' n' cap', .int .i64 c', .int .i64 d']), (w.heap.size, [Value.bool on, .slice a n cap, .int .i64 c, .int .i64 d])]) (((w.alloc (.cells #[.bool on, .slice a n cap, .int .i64 c, .int .i64 d] 27)).alloc (.cells #[.bool on', .slice a' n' cap', .int .i64 c', .int .i64 d'] 27)).alloc (.cells #[.bool false, .slice none 0 0, .int .i64 0, .int .i64 0] 27)) := by
    have e1 : w.heap.size + 1 = (w.alloc (.cells #[.bool on, .slice a n cap, .int .i64 c, .int .i64 d] 27)).heap.size := by simp
    have e2 : w.heap.size + 1 + 1 = ((w.alloc (.cells #[.bool on, .slice a n cap, .int .i64 c, .int .i64 d] 27)).alloc (.cells #[.bool on', .slice a' n' cap', .int .i64 c', .int .i64 d'] 27)).heap.size := by simp
    rw [e2, e1]
    exact HeldL.newL (vs := [Value.bool false, .slice none 0 0, .int .i64 0, .int .i64 0]) (HeldL.newL (vs := [Value.bool on', .slice a' n' cap', .int .i64 c', .int .i64 d']) (HeldL.newL (vs := [Value.bool on, .slice a n cap, .int .i64 c, .int .i64 d]) (HeldL.nil w)))
  obtain ⟨Lr, hLr⟩ : ∃ L, L = [(w.heap.size + 1, [Value.bool on', .slice a' n' cap', .int .i64 c', .int .i64 d']), (w.heap.size, [Value.bool on, .slice a n cap, .int .i64 c, .int .i64 d])] := ⟨_, rfl⟩
  have ne0 : ∀ e ∈ Lr, e.1 ≠ w.heap.size + 1 + 1 := by rw [hLr]; intro e he; simp at he; rcases he with rfl | rfl <;> dsimp only <;> omega
  have mA : (w.heap.size, [Value.bool on, .slice a n cap, .int .i64 c, .int .i64 d]) ∈ Lr := by rw [hLr]; simp
  have mB : (w.heap.size + 1, [Value.bool on', .slice a' n' cap', .int .i64 c', .int .i64 d']) ∈ Lr := by rw [hLr]; simp
  rw [← hLr] at H
  clear hLr
  go_enter Tryd.func7, Tryd.ntmps7
  go_wp2_with fail
  refine (absOkS _ _ _ _ _ _ _ _ _ _ _ (hC.next H.below)).mono ?_
  rintro e w1 ⟨rfl, hb⟩
  rw [g]
  replace H := H.next hb
  clear hb
  have y0 := H.cell (List.mem_cons_of_mem _ mB) (i := 0) rfl
  have y1 := H.cell (List.mem_cons_of_mem _ mB) (i := 1) rfl
  have y2 := H.cell (List.mem_cons_of_mem _ mB) (i := 2) rfl
  have y3 := H.cell (List.mem_cons_of_mem _ mB) (i := 3) rfl
  dsimp only at y0 y1 y2 y3
  go_wp2_with fail
  refine (absOkS _ _ _ _ _ _ _ _ _ _ _ (hD.next H.below)).mono ?_
  rintro e w2 ⟨rfl, hb⟩
  rw [g']
  replace H := H.next hb
  clear hb y0 y1 y2 y3
  have z0 := H.cell List.mem_cons_self (i := 0) rfl
  have z1 := H.cell List.mem_cons_self (i := 1) rfl
  have z2 := H.cell List.mem_cons_self (i := 2) rfl
  have z3 := H.cell List.mem_cons_self (i := 3) rfl
  have fr := H.free _ List.mem_cons_self
  dsimp only at z0 z1 z2 z3 fr
  have hH' : HeldL w ((w.heap.size + 1 + 1, [Value.bool false, .slice none 0 0, .int .i64 0, .int .i64 0]) :: Lr) (setAll (w.heap.size + 1 + 1) 0 [.bool false, .slice none 0 0, .int .i64 0, .int .i64 0] w2) := by
    have h := HeldL.putCells (by omega) ne0 [.bool false, .slice none 0 0, .int .i64 0, .int .i64 0] 0 [Value.bool false, .slice none 0 0, .int .i64 0, .int .i64 0] w2 H (by simp)
    simp only [putL, List.set_cons_succ, List.set_cons_zero] at h
    exact h
  clear H hC hD
  go_wp2_with fail
  show bodyPost _ _ _ _ _ (setAll (w.heap.size + 1 + 1) 0 [.bool false, .slice none 0 0, .int .i64 0, .int .i64 0] w2)
  obtain ⟨W, hW⟩ : ∃ W, W = setAll (w.heap.size + 1 + 1) 0 [.bool false, .slice none 0 0, .int .i64 0, .int .i64 0] w2 := ⟨_, rfl⟩
  rw [← hW] at hH' ⊢
  clear hW z0 z1 z2 z3 fr
  have r0 := hH'.cell List.mem_cons_self (i := 0) rfl
  have r1 := hH'.cell List.mem_cons_self (i := 1) rfl
  have r2 := hH'.cell List.mem_cons_self (i := 2) rfl
  have r3 := hH'.cell List.mem_cons_self (i := 3) rfl
  dsimp only at r0 r1 r2 r3
  refine bodyPost_ret (v := .agg #[.bool false, .slice none 0 0, .int .i64 0, .int .i64 0]) (by simp [results, Tryd.results7, go_sem, r0, r1, r2, r3]) rfl ⟨_, rfl, ⟨none, 0, 0, rfl, BndsIs.nil0 _ _ _ _⟩, hH'.below⟩
set_option maxRecDepth 10000 in
set_option maxHeartbeats 16000000 in
theorem absWideS_2 (a : Option Addr) (b off n cap : Nat) (lo hi : Nat → Int) (c d : Int) (on' : Bool) (a' : Option Addr) (b' off' n' cap' : Nat) (lo' hi' : Nat → Int) (c' d' : Int) (w : World) (hC : BndsAt a b off n lo hi w) (hD : BndsAt a' b' off' n' lo' hi' w) (g : absOk false n lo hi c d = true) (g' : absOk on' n' lo' hi' c' d' = true) :
    Calls Tryd.prog 7 #[.agg #[.bool false, .slice a n cap, .int .i64 c, .int .i64 d], .agg #[.bool on', .slice a' n' cap', .int .i64 c', .int .i64 d']] w fun e w' => ∃ v, e = .returned v ∧ StIs w.heap.size on' n' lo' hi' c' d' v w' ∧ Below w.heap.size w w' := by
  have H : HeldL w ((w.heap.size + 1 + 1, [Value.bool false, .slice none 0 0, .int .i64 0, .int .i64 0]) :: [(w.heap.size + 1, [Value.bool on', .slice a' n' cap', .int .i64 c', .int .i64 d']), (w.heap.size, [Value.bool false, .slice a n cap, .int .i64 c, .int .i64 d])]) (((w.alloc (.cells #[.bool false, .slice a n cap, .int .i64 c, .int .i64 d] 27)).alloc (.cells #[.bool on', .slice a' n' cap', .int .i64 c', .int .i64 d'] 27)).alloc (.cells #[.bool false, .slice none 0 0, .int .i64 0, .int .i64 0] 27)) := by
    have e1 : w.heap.size + 1 = (w.alloc (.cells #[.bool false, .slice a n cap, .int .i64 c, .int .i64 d] 27)).heap.size := by simp
    have e2 : w.heap.size + 1 + 1 = ((w.alloc (.cells #[.bool false, .slice a n cap, .int .i64 c, .int .i64 d] 27)).alloc (.cells #[.bool on', .slice a' n' cap', .int .i64 c', .int .i64 d'] 27)).heap.size := by simp
    rw [e2, e1]
    exact HeldL.newL (vs := [Value.bool false, .slice none 0 0, .int .i64 0, .int .i64 0]) (HeldL.newL (vs := [Value.bool on', .slice a' n' cap', .int .i64 c', .int .i64 d']) (HeldL.newL (vs := [Value.bool false, .slice a n cap, .int .i64 c, .int .i64 d]) (HeldL.nil w)))
  obtain ⟨Lr, hLr⟩ : ∃ L, L = [(w.heap.size + 1, [Value.bool on', .slice a' n' cap', .int .i64 c', .int .i64 d']), (w.heap.size, [Value.bool false, .slice a n cap, .int .i64 c, .int .i64 d])] := ⟨_, rfl⟩
  have ne0 : ∀ e ∈ Lr, e.1 ≠ w.heap.size + 1 + 1 := by rw [hLr]; intro e he; simp at he; rcases he with rfl | rfl <;> dsimp only <;> omega
  have mA : (w.heap.size, [Value.bool false, .slice a n cap, .int .i64 c, .int .i64 d]) ∈ Lr := by rw [hLr]; simp
  have mB : (w.heap.size + 1, [Value.bool on', .slice a' n' cap', .int .i64 c', .int .i64 d']) ∈ Lr := by rw [hLr]; simp
  rw [← hLr] at H
  clear hLr
  go_enter Tryd.func7, Tryd.ntmps7
  go_wp2_with fail
  refine (absOkS _ _ _ _ _ _ _ _ _ _ _ (hC.next H.below)).mono ?_
  rintro e w1 ⟨rfl, hb⟩
  rw [g]
  replace H := H.next hb
  clear hb
  have y0 := H.cell (List.mem_cons_of_mem _ mB) (i := 0) rfl
  have y1 := H.cell (List.mem_cons_of_mem _ mB) (i := 1) rfl
  have y2 := H.cell (List.mem_cons_of_mem _ mB) (i := 2) rfl
  have y3 := H.cell (List.mem_cons_of_mem _ mB) (i := 3) rfl
  dsimp only at y0 y1 y2 y3
  go_wp2_with fail
  refine (absOkS _ _ _ _ _ _ _ _ _ _ _ (hD.next H.below)).mono ?_
  rintro e w2 ⟨rfl, hb⟩
  rw [g']
  replace H := H.next hb
  clear hb y0 y1 y2 y3
  have x0 := H.cell (List.mem_cons_of_mem _ mA) (i := 0) rfl
  have x1 := H.cell (List.mem_cons_of_mem _ mA) (i := 1) rfl
  have x2 := H.cell (List.mem_cons_of_mem _ mA) (i := 2) rfl
  have x3 := H.cell (List.mem_cons_of_mem _ mA) (i := 3) rfl
  dsimp only at x0 x1 x2 x3
  have y0 := H.cell (List.mem_cons_of_mem _ mB) (i := 0) rfl
  have y1 := H.cell (List.mem_cons_of_mem _ mB) (i := 1) rfl
  have y2 := H.cell (List.mem_cons_of_mem _ mB) (i := 2) rfl
  have y3 := H.cell (List.mem_cons_of_mem _ mB) (i := 3) rfl
  dsimp only at y0 y1 y2 y3
  go_wp2_with fail
  refine (copyX _ _ _ _ _ _ _ _ _ _ _ g' (hD.next H.below)).mono ?_
  rintro e w3 ⟨v, rfl, ⟨a2, g2, cap2, rfl, hB⟩, hb⟩
  have hz := H.size List.mem_cons_self
  dsimp only at hz
  replace H := H.next hb
  clear hb x0 x1 x2 x3 y0 y1 y2 y3
  have B1 := (hB.base (C := w.heap.size + 1 + 1 + 1) hz).set (G := w.heap.size + 1 + 1) (o := 0) (vs := [.bool on', .slice a2 n' cap2, .int .i64 c', .int .i64 d']) (by omega)
  clear hB hz
  have z0 := H.cell List.mem_cons_self (i := 0) rfl
  have z1 := H.cell List.mem_cons_self (i := 1) rfl
  have z2 := H.cell List.mem_cons_self (i := 2) rfl
  have z3 := H.cell List.mem_cons_self (i := 3) rfl
  have fr := H.free _ List.mem_cons_self
  dsimp only at z0 z1 z2 z3 fr
  have hH' : HeldL w ((w.heap.size + 1 + 1, [Value.bool on', .slice a2 n' cap2, .int .i64 c', .int .i64 d']) :: Lr) (setAll (w.heap.size + 1 + 1) 0 [.bool on', .slice a2 n' cap2, .int .i64 c', .int .i64 d'] w3) := by
    have h := HeldL.putCells (by omega) ne0 [.bool on', .slice a2 n' cap2, .int .i64 c', .int .i64 d'] 0 [Value.bool false, .slice none 0 0, .int .i64 0, .int .i64 0] w3 H (by simp)
    simp only [putL, List.set_cons_succ, List.set_cons_zero] at h
    exact h
  clear H hC hD
  go_wp2_with fail
  show bodyPost _ _ _ _ _ (setAll (w.heap.size + 1 + 1) 0 [.bool on', .slice a2 n' cap2, .int .i64 c', .int .i64 d'] w3)
  obtain ⟨W, hW⟩ : ∃ W, W = setAll (w.heap.size + 1 + 1) 0 [.bool on', .slice a2 n' cap2, .int .i64 c', .int .i64 d'] w3 := ⟨_, rfl⟩
  rw [← hW] at hH' B1 ⊢
  clear hW z0 z1 z2 z3 fr
  have r0 := hH'.cell List.mem_cons_self (i := 0) rfl
  have r1 := hH'.cell List.mem_cons_self (i := 1) rfl
  have r2 := hH'.cell List.mem_cons_self (i := 2) rfl
  have r3 := hH'.cell List.mem_cons_self (i := 3) rfl
  dsimp only at r0 r1 r2 r3
  refine bodyPost_ret (v := .agg #[.bool on', .slice a2 n' cap2, .int .i64 c', .int .i64 d']) (by simp [results, Tryd.results7, go_sem, r0, r1, r2, r3]) rfl ⟨_, rfl, ⟨a2, g2, cap2, rfl, B1.base (by omega)⟩, hH'.below⟩
set_option maxRecDepth 10000 in
set_option maxHeartbeats 16000000 in
theorem absWideS_3 (a : Option Addr) (b off n cap : Nat) (lo hi : Nat → Int) (c d : Int) (a' : Option Addr) (b' off' n' cap' : Nat) (lo' hi' : Nat → Int) (c' d' : Int) (w : World) (hC : BndsAt a b off n lo hi w) (hD : BndsAt a' b' off' n' lo' hi' w) (g : absOk true n lo hi c d = true) (g' : absOk false n' lo' hi' c' d' = true) :
    Calls Tryd.prog 7 #[.agg #[.bool true, .slice a n cap, .int .i64 c, .int .i64 d], .agg #[.bool false, .slice a' n' cap', .int .i64 c', .int .i64 d']] w fun e w' => ∃ v, e = .returned v ∧ StIs w.heap.size true n lo hi c d v w' ∧ Below w.heap.size w w' := by
  have H : HeldL w ((w.heap.size + 1 + 1, [Value.bool false, .slice none 0 0, .int .i64 0, .int .i64 0]) :: [(w.heap.size + 1, [Value.bool false, .slice a' n' cap', .int .i64 c', .int .i64 d']), (w.heap.size, [Value.bool true, .slice a n cap, .int .i64 c, .int .i64 d])]) (((w.alloc (.cells #[.bool true, .slice a n cap, .int .i64 c, .int .i64 d] 27)).alloc (.cells #[.bool false, .slice a' n' cap', .int .i64 c', .int .i64 d'] 27)).alloc (.cells #[.bool false, .slice none 0 0, .int .i64 0, .int .i64 0] 27)) := by
    have e1 : w.heap.size + 1 = (w.alloc (.cells #[.bool true, .slice a n cap, .int .i64 c, .int .i64 d] 27)).heap.size := by simp
    have e2 : w.heap.size + 1 + 1 = ((w.alloc (.cells #[.bool true, .slice a n cap, .int .i64 c, .int .i64 d] 27)).alloc (.cells #[.bool false, .slice a' n' cap', .int .i64 c', .int .i64 d'] 27)).heap.size := by simp
    rw [e2, e1]
    exact HeldL.newL (vs := [Value.bool false, .slice none 0 0, .int .i64 0, .int .i64 0]) (HeldL.newL (vs := [Value.bool false, .slice a' n' cap', .int .i64 c', .int .i64 d']) (HeldL.newL (vs := [Value.bool true, .slice a n cap, .int .i64 c, .int .i64 d]) (HeldL.nil w)))
  obtain ⟨Lr, hLr⟩ : ∃ L, L = [(w.heap.size + 1, [Value.bool false, .slice a' n' cap', .int .i64 c', .int .i64 d']), (w.heap.size, [Value.bool true, .slice a n cap, .int .i64 c, .int .i64 d])] := ⟨_, rfl⟩
  have ne0 : ∀ e ∈ Lr, e.1 ≠ w.heap.size + 1 + 1 := by rw [hLr]; intro e he; simp at he; rcases he with rfl | rfl <;> dsimp only <;> omega
  have mA : (w.heap.size, [Value.bool true, .slice a n cap, .int .i64 c, .int .i64 d]) ∈ Lr := by rw [hLr]; simp
  have mB : (w.heap.size + 1, [Value.bool false, .slice a' n' cap', .int .i64 c', .int .i64 d']) ∈ Lr := by rw [hLr]; simp
  rw [← hLr] at H
  clear hLr
  go_enter Tryd.func7, Tryd.ntmps7
  go_wp2_with fail
  refine (absOkS _ _ _ _ _ _ _ _ _ _ _ (hC.next H.below)).mono ?_
  rintro e w1 ⟨rfl, hb⟩
  rw [g]
  replace H := H.next hb
  clear hb
  have y0 := H.cell (List.mem_cons_of_mem _ mB) (i := 0) rfl
  have y1 := H.cell (List.mem_cons_of_mem _ mB) (i := 1) rfl
  have y2 := H.cell (List.mem_cons_of_mem _ mB) (i := 2) rfl
  have y3 := H.cell (List.mem_cons_of_mem _ mB) (i := 3) rfl
  dsimp only at y0 y1 y2 y3
  go_wp2_with fail
  refine (absOkS _ _ _ _ _ _ _ _ _ _ _ (hD.next H.below)).mono ?_
  rintro e w2 ⟨rfl, hb⟩
  rw [g']
  replace H := H.next hb
  clear hb y0 y1 y2 y3
  have x0 := H.cell (List.mem_cons_of_mem _ mA) (i := 0) rfl
  have x1 := H.cell (List.mem_cons_of_mem _ mA) (i := 1) rfl
  have x2 := H.cell (List.mem_cons_of_mem _ mA) (i := 2) rfl
  have x3 := H.cell (List.mem_cons_of_mem _ mA) (i := 3) rfl
  dsimp only at x0 x1 x2 x3
  have y0 := H.cell (List.mem_cons_of_mem _ mB) (i := 0) rfl
  have y1 := H.cell (List.mem_cons_of_mem _ mB) (i := 1) rfl
  have y2 := H.cell (List.mem_cons_of_mem _ mB) (i := 2) rfl
  have y3 := H.cell (List.mem_cons_of_mem _ mB) (i := 3) rfl
  dsimp only at y0 y1 y2 y3
  go_wp2_with fail
  refine (copyX _ _ _ _ _ _ _ _ _ _ _ g (hC.next H.below)).mono ?_
  rintro e w3 ⟨v, rfl, ⟨a2, g2, cap2, rfl, hB⟩, hb⟩
  have hz := H.size List.mem_cons_self
  dsimp only at hz
  replace H := H.next hb
  clear hb x0 x1 x2 x3 y0 y1 y2 y3
  have B1 := (hB.base (C := w.heap.size + 1 + 1 + 1) hz).set (G := w.heap.size + 1 + 1) (o := 0) (vs := [.bool true, .slice a2 n cap2, .int .i64 c, .int .i64 d]) (by omega)
  clear hB hz
  have z0 := H.cell List.mem_cons_self (i := 0) rfl
  have z1 := H.cell List.mem_cons_self (i := 1) rfl
  have z2 := H.cell List.mem_cons_self (i := 2) rfl
  have z3 := H.cell List.mem_cons_self (i := 3) rfl
  have fr := H.free _ List.mem_cons_self
  dsimp only at z0 z1 z2 z3 fr
  have hH' : HeldL w ((w.heap.size + 1 + 1, [Value.bool true, .slice a2 n cap2, .int .i64 c, .int .i64 d]) :: Lr) (setAll (w.heap.size + 1 + 1) 0 [.bool true, .slice a2 n cap2, .int .i64 c, .int .i64 d] w3) := by
    have h := HeldL.putCells (by omega) ne0 [.bool true, .slice a2 n cap2, .int .i64 c, .int .i64 d] 0 [Value.bool false, .slice none 0 0, .int .i64 0, .int .i64 0] w3 H (by simp)
    simp only [putL, List.set_cons_succ, List.set_cons_zero] at h
    exact h
  clear H hC hD
  go_wp2_with fail
  show bodyPost _ _ _ _ _ (setAll (w.heap.size + 1 + 1) 0 [.bool true, .slice a2 n cap2, .int .i64 c, .int .i64 d] w3)
  obtain ⟨W, hW⟩ : ∃ W, W = setAll (w.heap.size + 1 + 1) 0 [.bool true, .slice a2 n cap2, .int .i64 c, .int .i64 d] w3 := ⟨_, rfl⟩
  rw [← hW] at hH' B1 ⊢
  clear hW z0 z1 z2 z3 fr
  have r0 := hH'.cell List.mem_cons_self (i := 0) rfl
  have r1 := hH'.cell List.mem_cons_self (i := 1) rfl
  have r2 := hH'.cell List.mem_cons_self (i := 2) rfl
  have r3 := hH'.cell List.mem_cons_self (i := 3) rfl
  dsimp only at r0 r1 r2 r3
  refine bodyPost_ret (v := .agg #[.bool true, .slice a2 n cap2, .int .i64 c, .int .i64 d]) (by simp [results, Tryd.results7, go_sem, r0, r1, r2, r3]) rfl ⟨_, rfl, ⟨a2, g2, cap2, rfl, B1.base (by omega)⟩, hH'.below⟩
theorem absWideS (on : Bool) (a : Option Addr) (b off n cap : Nat) (lo hi : Nat → Int) (c d : Int) (on' : Bool) (a' : Option Addr) (b' off' n' cap' : Nat) (lo' hi' : Nat → Int) (c' d' : Int) (w : World) (hC : BndsAt a b off n lo hi w) (hD : BndsAt a' b' off' n' lo' hi' w) :
    Calls Tryd.prog 7 #[.agg #[.bool on, .slice a n cap, .int .i64 c, .int .i64 d], .agg #[.bool on', .slice a' n' cap', .int .i64 c', .int .i64 d']] w fun e w' => ∃ v, e = .returned v ∧ StIs w.heap.size ((absOk on n lo hi c d && absOk on' n' lo' hi' c' d') && (on || on')) (onN ((absOk on n lo hi c d && absOk on' n' lo' hi' c' d') && (on || on'))) (jF on on' (arL on lo c) (arL on' lo' c') (fun k => wideLo (arL on lo c k) (arL on hi d k) (arL on' lo' c' k) (arL on' hi' d' k))) (jF on on' (arL on hi d) (arL on' hi' d') (fun k => wideHi (arL on lo c k) (arL on hi d k) (arL on' lo' c' k) (arL on' hi' d' k))) (onF ((absOk on n lo hi c d && absOk on' n' lo' hi' c' d') && (on || on')) ((jF on on' (arL on lo c) (arL on' lo' c') (fun k => wideLo (arL on lo c k) (arL on hi d k) (arL on' lo' c' k) (arL on' hi' d' k))) 4)) (onF ((absOk on n lo hi c d && absOk on' n' lo' hi' c' d') && (on || on')) ((jF on on' (arL on hi d) (arL on' hi' d') (fun k => wideHi (arL on lo c k) (arL on hi d k) (arL on' lo' c' k) (arL on' hi' d' k))) 4)) v w' ∧ Below w.heap.size w w' := by
  cases g : absOk on n lo hi c d
  · refine (absWideS_0 _ _ _ _ _ _ _ _ _ _ _ _ _ _ _ _ _ _ _ _ _ hC hD g).mono ?_
    rintro e w' ⟨v, rfl, hv, hb⟩
    exact ⟨_, rfl, hv.congr (fun k hk => by omega) (fun k hk => by omega), hb⟩
  cases g' : absOk on' n' lo' hi' c' d'
  · refine (absWideS_1 _ _ _ _ _ _ _ _ _ _ _ _ _ _ _ _ _ _ _ _ _ hC hD g g').mono ?_
    rintro e w' ⟨v, rfl, hv, hb⟩
    exact ⟨_, rfl, hv.congr (fun k hk => by omega) (fun k hk => by omega), hb⟩
  simp only [Bool.and_self, Bool.true_and]
  cases on
  · refine (absWideS_2 _ _ _ _ _ _ _ _ _ _ _ _ _ _ _ _ _ _ _ _ hC hD g g').mono ?_
    rintro e w' ⟨v, rfl, hv, hb⟩
    cases on'
    · obtain ⟨rfl, rfl, rfl⟩ : n' = 0 ∧ c' = 0 ∧ d' = 0 := by simp [absOk] at g'; exact g'
      exact ⟨_, rfl, hv.congr (fun k hk => by omega) (fun k hk => by omega), hb⟩
    · obtain rfl : n' = 4 := by simp [absOk] at g'; exact g'.1
      refine ⟨_, rfl, hv.congr (lo2 := arL true lo' c') (hi2 := arL true hi' d') (fun k hk => ?_) (fun k hk => ?_), hb⟩ <;> simp [arL, hk]
  · cases on'
    · obtain rfl : n = 4 := by simp [absOk] at g; exact g.1
      refine (absWideS_3 _ _ _ _ _ _ _ _ _ _ _ _ _ _ _ _ _ _ _ hC hD g g').mono ?_
      rintro e w' ⟨v, rfl, hv, hb⟩
      refine ⟨_, rfl, hv.congr (lo2 := arL true lo c) (hi2 := arL true hi d) (fun k hk => ?_) (fun k hk => ?_), hb⟩ <;> simp [arL, hk]
    · obtain rfl : n = 4 := by simp [absOk] at g; exact g.1
      obtain rfl : n' = 4 := by simp [absOk] at g'; exact g'.1
      obtain rfl := hC.at_ (by omega)
      obtain rfl := hD.at_ (by omega)
      refine (absWideS_t _ _ _ _ _ _ _ _ _ _ _ _ _ _ _ _ _ _ _ hC hD g g' (fun k => rfl) (fun k => rfl) rfl rfl).mono ?_
      rintro e w' ⟨v, rfl, hv, hb⟩
      refine ⟨_, rfl, hv.congr (fun k hk => ?_) (fun k hk => ?_), hb⟩ <;> simp [jF, arL, hk]
end Go.Proofs.YtiehokibfdaleaaDoor
