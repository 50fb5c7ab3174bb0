/- AbsWide, the program's. · A list of four bounds appended to an empty one; the model's copy of a state. · Join and meet of bounds: the model's (S). · The model's AbsJoin. -/
import Derived.Test.YtiehokibfdaleaaDoorG17
import Derived.Test.YtiehokibfdaleaaDoorG16
import Derived.Test.YtiehokibfdaleaaDoorG3
import Derived.WalkKit
import Derived.ProofKit
import Derived.OpenShut
import Derived.Below
import Derived.Test.YtiehokibfdaleaaDoorG5
namespace Go.Proofs.YtiehokibfdaleaaDoor
open Go.ChangeShapes Go.WideShapes Go.ChangeAt Go.RowKit
set_option linter.unusedVariables false
def JmS (w : World) (R N : Nat) (Lr : List (Nat × List Value)) (on : Bool) (n : Nat) (lo hi : Nat → Int) (c d : Int) (L : Nat → Bool) (W : World) : Prop :=
  (L 6 = false → HeldL w ((R, [Value.bool false, .slice none 0 0, .int .i64 0, .int .i64 0]) :: Lr) W) ∧ (L 6 = true → ∃ (ga : Option Addr) (g gc : Nat), HeldL w ((R, [Value.bool on, .slice ga n gc, .int .i64 c, .int .i64 d]) :: Lr) W ∧ BndsIs N n lo hi ga g W)
theorem JmS.next {w : World} {R N : Nat} {Lr : List (Nat × List Value)} {on : Bool} {n : Nat} {lo hi : Nat → Int} {c d : Int} {L : Nat → Bool} {W W' : World} (h : JmS w R N Lr on n lo hi c d L W) (hb : Below W.heap.size W W') : JmS w R N Lr on n lo hi c d L W' :=
  ⟨fun e => (h.1 e).next hb, fun e => by obtain ⟨ga, g, gc, h1, h2⟩ := h.2 e; exact ⟨ga, g, gc, h1.next hb, h2.next hb⟩⟩
theorem JmS.keep {w : World} {R N : Nat} {Lr : List (Nat × List Value)} {on : Bool} {n : Nat} {lo hi : Nat → Int} {c d : Int} {L : Nat → Bool} {W : World} (h : JmS w R N Lr on n lo hi c d L W) {i : Nat} (hi' : 6 ≠ i) : JmS w R N Lr on n lo hi c d (upd L i true) W := by
  unfold JmS; rw [upd_other _ _ hi']; exact h
theorem JmS.sub {w : World} {R N : Nat} {Lr : List (Nat × List Value)} {on : Bool} {n : Nat} {lo hi : Nat → Int} {c d : Int} {L : Nat → Bool} {W : World} (h : JmS w R N Lr on n lo hi c d L W) : HeldL w Lr W := by
  cases e : L 6
  · exact (h.1 e).sub (fun x hx => List.mem_cons_of_mem _ hx)
  · obtain ⟨ga, g, gc, h1, _⟩ := h.2 e
    exact h1.sub (fun x hx => List.mem_cons_of_mem _ hx)
theorem JmS.cell {w : World} {R N : Nat} {Lr : List (Nat × List Value)} {on : Bool} {n : Nat} {lo hi : Nat → Int} {c d : Int} {L : Nat → Bool} {W : World} (h : JmS w R N Lr on n lo hi c d L W) {e : Nat × List Value} (he : e ∈ Lr) {i : Nat} {v : Value} (hv : e.2[i]? = some v) : W.cell? ⟨e.1, i, none⟩ = some v := h.sub.cell he hv
theorem JmS.big {w : World} {R N : Nat} {Lr : List (Nat × List Value)} {on : Bool} {n : Nat} {lo hi : Nat → Int} {c d : Int} {L : Nat → Bool} {W : World} (h : JmS w R N Lr on n lo hi c d L W) : R < W.heap.size := by
  cases e : L 6
  · exact (h.1 e).size List.mem_cons_self
  · obtain ⟨ga, g, gc, h1, _⟩ := h.2 e
    exact h1.size List.mem_cons_self
set_option maxRecDepth 10000 in
set_option maxHeartbeats 16000000 in
theorem absWideI_t (on : Bool) (a : Option Addr) (b off n cap : Nat) (lo hi : Nat → Int) (c d : Int) (on' : Bool) (a' : Option Addr) (b' off' n' cap' : Nat) (lo' hi' : Nat → Int) (c' d' : Int) (w : World) (hst : StepsIn w) (l h l' h' F G : Nat → Int) (hn : n ≤ 1048576) (hn' : n' ≤ 1048576) (hC : BndsAt a b off n lo hi w) (hD : BndsAt a' b' off' n' lo' hi' w)
    (g : absOk on n lo hi c d = true) (g' : absOk on' n' lo' hi' c' d' = true) (hl : arL on lo c = l) (hh : arL on hi d = h) (hl' : arL on' lo' c' = l') (hh' : arL on' hi' d' = h') (hF : (fun k => wideLo (l k) (h k) (l' k) (h' k)) = F) (hG : (fun k => wideHi (l k) (h k) (l' k) (h' k)) = G) :
    Calls Tryd.prog 5 #[.agg #[.bool on, .slice a n cap, .int .i64 c, .int .i64 d], .agg #[.bool on', .slice a' n' cap', .int .i64 c', .int .i64 d']] w fun e w' => ∃ v, e = .returned v ∧ StIs w.heap.size (on || on') (onN (on || on')) (jF on on' l l' F) (jF on on' h h' G) (onF (on || on') (jF on on' l l' F 4)) (onF (on || on') (jF on on' h h' G 4)) v w' ∧ Below w.heap.size w w' := by
  have H : HeldL w ((w.heap.size + 1 + 1, [Value.bool false, .slice none 0 0, .int .i64 0, .int .i64 0]) :: [(w.heap.size + 1, [Value.bool on', .slice a' n' cap', .int .i64 c', .int .i64 d']), (w.heap.size, [Value.bool on, .slice a n cap, .int .i64 c, .int .i64 d])]) (((w.alloc (.cells #[.bool on, .slice a n cap, .int .i64 c, .int .i64 d] 27)).alloc (.cells #[.bool on', .slice a' n' cap', .int .i64 c', .int .i64 d'] 27)).alloc (.cells #[.bool false, .slice none 0 0, .int .i64 0, .int .i64 0] 27)) := by
    have e1 : w.heap.size + 1 = (w.alloc (.cells #[.bool on, .slice a n cap, .int .i64 c, .int .i64 d] 27)).heap.size := by simp
    have e2 : w.heap.size + 1 + 1 = ((w.alloc (.cells #[.bool on, .slice a n cap, .int .i64 c, .int .i64 d] 27)).alloc (.cells #[.bool on', .slice a' n' cap', .int .i64 c', .int .i64 d'] 27)).heap.size := by simp
    rw [e2, e1]
    exact HeldL.newL (vs := [Value.bool false, .slice none 0 0, .int .i64 0, .int .i64 0]) (HeldL.newL (vs := [Value.bool on', .slice a' n' cap', .int .i64 c', .int .i64 d']) (HeldL.newL (vs := [Value.bool on, .slice a n cap, .int .i64 c, .int .i64 d]) (HeldL.nil w)))
  obtain ⟨Lr, hLr⟩ : ∃ L, L = [(w.heap.size + 1, [Value.bool on', .slice a' n' cap', .int .i64 c', .int .i64 d']), (w.heap.size, [Value.bool on, .slice a n cap, .int .i64 c, .int .i64 d])] := ⟨_, rfl⟩
  have ne0 : ∀ e ∈ Lr, e.1 ≠ w.heap.size + 1 + 1 := by rw [hLr]; intro e he; simp at he; rcases he with rfl | rfl <;> dsimp only <;> omega
  have mA : (w.heap.size, [Value.bool on, .slice a n cap, .int .i64 c, .int .i64 d]) ∈ Lr := by rw [hLr]; simp
  have mB : (w.heap.size + 1, [Value.bool on', .slice a' n' cap', .int .i64 c', .int .i64 d']) ∈ Lr := by rw [hLr]; simp
  rw [← hLr] at H
  clear hLr
  have I := hC.next H.below
  have J := hD.next H.below
  go_enter Tryd.func5, Tryd.ntmps5
  go_wp2_with fail
  refine (absOkI _ _ _ _ _ _ _ _ _ _ _ hn I).mono ?_
  rintro e w1 ⟨rfl, hb⟩
  rw [g]
  replace H := H.next hb
  replace I := I.next hb
  replace J := J.next hb
  clear hb
  have x0 := H.cell (List.mem_cons_of_mem _ mB) (i := 0) rfl
  have x1 := H.cell (List.mem_cons_of_mem _ mB) (i := 1) rfl
  have x2 := H.cell (List.mem_cons_of_mem _ mB) (i := 2) rfl
  have x3 := H.cell (List.mem_cons_of_mem _ mB) (i := 3) rfl
  dsimp only at x0 x1 x2 x3
  go_wp2_with fail
  refine (absOkI _ _ _ _ _ _ _ _ _ _ _ hn' J).mono ?_
  rintro e w2 ⟨rfl, hb⟩
  rw [g']
  replace H := H.next hb
  replace I := I.next hb
  replace J := J.next hb
  clear hb x0 x1 x2 x3
  have hz : w.heap.size + 1 + 1 + 1 ≤ w2.heap.size := H.size List.mem_cons_self
  have hS0 : JmS w (w.heap.size + 1 + 1) (w.heap.size + 1 + 1 + 1) Lr (on || on') (onN (on || on')) (jF on on' l l' F) (jF on on' h h' G) (onF (on || on') (jF on on' l l' F 4)) (onF (on || on') (jF on on' h h' G 4)) (fun _ => false) w2.drew := ⟨fun _ => H.drew, (fun e => by cases e)⟩
  clear H I J hz
  go_wp2_with fail
  refine region_inv3 [(0, 14), (1, 15), (2, 16), (3, 17), (4, 18), (5, 19)]
    (fun j v W => match j with
      | 0 => Is (.agg #[.bool on, .slice a n cap, .int .i64 c, .int .i64 d]) v
      | 1 => Is (.agg #[.bool on, .int .i64 (l 0), .int .i64 (h 0), .int .i64 (l 1), .int .i64 (h 1), .int .i64 (l 2), .int .i64 (h 2), .int .i64 (l 3), .int .i64 (h 3), .int .i64 (l 4), .int .i64 (h 4)]) v
      | 2 => Is (.agg #[.bool on', .slice a' n' cap', .int .i64 c', .int .i64 d']) v
      | 3 => Is (.agg #[.bool on', .int .i64 (l' 0), .int .i64 (h' 0), .int .i64 (l' 1), .int .i64 (h' 1), .int .i64 (l' 2), .int .i64 (h' 2), .int .i64 (l' 3), .int .i64 (h' 3), .int .i64 (l' 4), .int .i64 (h' 4)]) v
      | 4 => Is (.agg #[.bool (on || on'), .int .i64 (jF on on' l l' F 0), .int .i64 (jF on on' h h' G 0), .int .i64 (jF on on' l l' F 1), .int .i64 (jF on on' h h' G 1), .int .i64 (jF on on' l l' F 2), .int .i64 (jF on on' h h' G 2), .int .i64 (jF on on' l l' F 3), .int .i64 (jF on on' h h' G 3), .int .i64 (jF on on' l l' F 4), .int .i64 (jF on on' h h' G 4)]) v
      | 5 => StIs (w.heap.size + 1 + 1 + 1) (on || on') (onN (on || on')) (jF on on' l l' F) (jF on on' h h' G) (onF (on || on') (jF on on' l l' F 4)) (onF (on || on') (jF on on' h h' G 4)) v W
      | _ => True)
    (fun L W => JmS w (w.heap.size + 1 + 1) (w.heap.size + 1 + 1 + 1) Lr (on || on') (onN (on || on')) (jF on on' l l' F) (jF on on' h h' G) (onF (on || on') (jF on on' l l' F 4)) (onF (on || on') (jF on on' h h' G 4)) L W) (Trn (w.heap.size + 1 + 1))
    (by kernel_rfl) (by kernel_rfl) (by kernel_rfl) (by kernel_rfl) (by kernel_rfl) rfl hS0 ?_ ?_ ?_
  · intro i j v W W' hji hφ hT
    match j, hji, hφ with
    | 0, _, hφ => exact hφ
    | 1, _, hφ => exact hφ
    | 2, _, hφ => exact hφ
    | 3, _, hφ => exact hφ
    | 4, _, hφ => exact hφ
    | 5, _, hφ => exact StIs.trn hφ (by omega) hT
    | _ + 6, _, _ => trivial
  · intro i L vals W hi' hφ hS hL hd
    have hi2 : i < 7 := hi'
    have hbig : w.heap.size + 1 + 1 < W.heap.size := hS.big
    clear hi' hS0
    rcases (show i = 0 ∨ i = 1 ∨ i = 2 ∨ i = 3 ∨ i = 4 ∨ i = 5 ∨ i = 6 by omega) with rfl | rfl | rfl | rfl | rfl | rfl | rfl
    · have x0 := hS.cell mA (i := 0) rfl
      have x1 := hS.cell mA (i := 1) rfl
      have x2 := hS.cell mA (i := 2) rfl
      have x3 := hS.cell mA (i := 3) rfl
      dsimp only at x0 x1 x2 x3
      refine wpAt_of rfl rfl ?_
      simp only [frOf, Act.put]
      go_wp2_with fail
      first | exact ⟨trivial, rfl, Trn.refl, hS.keep (by decide)⟩ | exact ⟨rfl, Trn.refl, hS.keep (by decide)⟩
    · have k0 : vals 0 = .agg #[.bool on, .slice a n cap, .int .i64 c, .int .i64 d] := hφ 0 (hd 0 (by decide))
      refine wpAt_of rfl rfl ?_
      simp only [frOf, Act.put]
      go_wp2_with fail
      refine (arrivalX _ _ _ _ _ _ _ _ _ _ _ g (hC.next hS.sub.below)).mono ?_
      rintro e W' ⟨rfl, hb⟩
      rw [hl, hh]
      go_wp2_with fail
      first | exact ⟨trivial, rfl, Trn.ofBelow hb, (hS.next hb).keep (by decide)⟩ | exact ⟨rfl, Trn.ofBelow hb, (hS.next hb).keep (by decide)⟩
    · have x0 := hS.cell mB (i := 0) rfl
      have x1 := hS.cell mB (i := 1) rfl
      have x2 := hS.cell mB (i := 2) rfl
      have x3 := hS.cell mB (i := 3) rfl
      dsimp only at x0 x1 x2 x3
      refine wpAt_of rfl rfl ?_
      simp only [frOf, Act.put]
      go_wp2_with fail
      first | exact ⟨trivial, rfl, Trn.refl, hS.keep (by decide)⟩ | exact ⟨rfl, Trn.refl, hS.keep (by decide)⟩
    · have k2 : vals 2 = .agg #[.bool on', .slice a' n' cap', .int .i64 c', .int .i64 d'] := hφ 2 (hd 2 (by decide))
      refine wpAt_of rfl rfl ?_
      simp only [frOf, Act.put]
      go_wp2_with fail
      refine (arrivalX _ _ _ _ _ _ _ _ _ _ _ g' (hD.next hS.sub.below)).mono ?_
      rintro e W' ⟨rfl, hb⟩
      rw [hl', hh']
      go_wp2_with fail
      first | exact ⟨trivial, rfl, Trn.ofBelow hb, (hS.next hb).keep (by decide)⟩ | exact ⟨rfl, Trn.ofBelow hb, (hS.next hb).keep (by decide)⟩
    · have k1 : vals 1 = .agg #[.bool on, .int .i64 (l 0), .int .i64 (h 0), .int .i64 (l 1), .int .i64 (h 1), .int .i64 (l 2), .int .i64 (h 2), .int .i64 (l 3), .int .i64 (h 3), .int .i64 (l 4), .int .i64 (h 4)] := hφ 1 (hd 1 (by decide))
      have k3 : vals 3 = .agg #[.bool on', .int .i64 (l' 0), .int .i64 (h' 0), .int .i64 (l' 1), .int .i64 (h' 1), .int .i64 (l' 2), .int .i64 (h' 2), .int .i64 (l' 3), .int .i64 (h' 3), .int .i64 (l' 4), .int .i64 (h' 4)] := hφ 3 (hd 3 (by decide))
      refine wpAt_of rfl rfl ?_
      simp only [frOf, Act.put]
      go_wp2_with fail
      refine (besideW on on' l h l' h' F G hF hG _ (steps_below hst hS.sub.below)).mono ?_
      rintro e W' ⟨rfl, hb⟩
      go_wp2_with fail
      first | exact ⟨trivial, rfl, Trn.ofBelow hb, (hS.next hb).keep (by decide)⟩ | exact ⟨rfl, Trn.ofBelow hb, (hS.next hb).keep (by decide)⟩
    · have k4 : vals 4 = .agg #[.bool (on || on'), .int .i64 (jF on on' l l' F 0), .int .i64 (jF on on' h h' G 0), .int .i64 (jF on on' l l' F 1), .int .i64 (jF on on' h h' G 1), .int .i64 (jF on on' l l' F 2), .int .i64 (jF on on' h h' G 2), .int .i64 (jF on on' l l' F 3), .int .i64 (jF on on' h h' G 3), .int .i64 (jF on on' l l' F 4), .int .i64 (jF on on' h h' G 4)] := hφ 4 (hd 4 (by decide))
      refine wpAt_of rfl rfl ?_
      simp only [frOf, Act.put]
      go_wp2_with fail
      refine (stateX (on || on') (jF on on' l l' F) (jF on on' h h' G) _).mono ?_
      rintro e W' ⟨v, rfl, hv, hb⟩
      replace hv := hv.base (C := w.heap.size + 1 + 1 + 1) hbig
      go_wp2_with fail
      first | exact ⟨trivial, hv, Trn.ofBelow hb, (hS.next hb).keep (by decide)⟩ | exact ⟨hv, Trn.ofBelow hb, (hS.next hb).keep (by decide)⟩
    · obtain ⟨ga, gg, gc, k5, hB⟩ : StIs (w.heap.size + 1 + 1 + 1) (on || on') (onN (on || on')) (jF on on' l l' F) (jF on on' h h' G) (onF (on || on') (jF on on' l l' F 4)) (onF (on || on') (jF on on' h h' G 4)) (vals 5) W := hφ 5 (hd 5 (by decide))
      have hH := hS.1 hL
      have r0 := hH.cell List.mem_cons_self (i := 0) rfl
      have r1 := hH.cell List.mem_cons_self (i := 1) rfl
      have r2 := hH.cell List.mem_cons_self (i := 2) rfl
      have r3 := hH.cell List.mem_cons_self (i := 3) rfl
      have fr := hH.free _ List.mem_cons_self
      dsimp only at r0 r1 r2 r3 fr
      have hH' := HeldL.putCells (by omega) ne0 [.bool (on || on'), .slice ga (onN (on || on')) gc, .int .i64 (onF (on || on') (jF on on' l l' F 4)), .int .i64 (onF (on || on') (jF on on' h h' G 4))] 0 [Value.bool false, .slice none 0 0, .int .i64 0, .int .i64 0] W hH (by simp)
      simp only [putL, List.set_cons_succ, List.set_cons_zero] at hH'
      have hT : Trn (w.heap.size + 1 + 1) 6 W (setAll (w.heap.size + 1 + 1) 0 [.bool (on || on'), .slice ga (onN (on || on')) gc, .int .i64 (onF (on || on') (jF on on' l l' F 4)), .int .i64 (onF (on || on') (jF on on' h h' G 4))] W) := Trn.setAll
      have hB' := hB.trn (by omega) hT
      refine wpAt_none rfl rfl ?_
      simp only [frOf, Act.put]
      go_wp2_with fail
      have fin : JmS w (w.heap.size + 1 + 1) (w.heap.size + 1 + 1 + 1) Lr (on || on') (onN (on || on')) (jF on on' l l' F) (jF on on' h h' G) (onF (on || on') (jF on on' l l' F 4)) (onF (on || on') (jF on on' h h' G 4)) (upd L 6 true) (setAll (w.heap.size + 1 + 1) 0 [.bool (on || on'), .slice ga (onN (on || on')) gc, .int .i64 (onF (on || on') (jF on on' l l' F 4)), .int .i64 (onF (on || on') (jF on on' h h' G 4))] W) := ⟨(fun e => by rw [upd_same] at e; cases e), fun _ => ⟨ga, gg, gc, hH', hB'⟩⟩
      first | exact ⟨trivial, trivial, hT, fin⟩ | exact ⟨trivial, hT, fin⟩ | exact ⟨hT, fin⟩
  · intro L vals W hall hφ hS
    have k0 : vals 0 = .agg #[.bool on, .slice a n cap, .int .i64 c, .int .i64 d] := hφ 0 (by decide)
    have k1 : vals 1 = .agg #[.bool on, .int .i64 (l 0), .int .i64 (h 0), .int .i64 (l 1), .int .i64 (h 1), .int .i64 (l 2), .int .i64 (h 2), .int .i64 (l 3), .int .i64 (h 3), .int .i64 (l 4), .int .i64 (h 4)] := hφ 1 (by decide)
    have k2 : vals 2 = .agg #[.bool on', .slice a' n' cap', .int .i64 c', .int .i64 d'] := hφ 2 (by decide)
    have k3 : vals 3 = .agg #[.bool on', .int .i64 (l' 0), .int .i64 (h' 0), .int .i64 (l' 1), .int .i64 (h' 1), .int .i64 (l' 2), .int .i64 (h' 2), .int .i64 (l' 3), .int .i64 (h' 3), .int .i64 (l' 4), .int .i64 (h' 4)] := hφ 3 (by decide)
    have k4 : vals 4 = .agg #[.bool (on || on'), .int .i64 (jF on on' l l' F 0), .int .i64 (jF on on' h h' G 0), .int .i64 (jF on on' l l' F 1), .int .i64 (jF on on' h h' G 1), .int .i64 (jF on on' l l' F 2), .int .i64 (jF on on' h h' G 2), .int .i64 (jF on on' l l' F 3), .int .i64 (jF on on' h h' G 3), .int .i64 (jF on on' l l' F 4), .int .i64 (jF on on' h h' G 4)] := hφ 4 (by decide)
    obtain ⟨ga, gg, gc, hH, hB⟩ := hS.2 (hall 6 (by decide))
    simp only [frOf, Act.put, List.setIfInBounds_toArray, List.set_cons_succ, List.set_cons_zero, k0, k1, k2, k3, k4]
    clear k0 k1 k2 k3 k4 hall hφ hS0 hS
    have r0 := hH.cell List.mem_cons_self (i := 0) rfl
    have r1 := hH.cell List.mem_cons_self (i := 1) rfl
    have r2 := hH.cell List.mem_cons_self (i := 2) rfl
    have r3 := hH.cell List.mem_cons_self (i := 3) rfl
    dsimp only at r0 r1 r2 r3
    go_wp2_with fail
    refine bodyPost_ret (v := .agg #[.bool (on || on'), .slice ga (onN (on || on')) gc, .int .i64 (onF (on || on') (jF on on' l l' F 4)), .int .i64 (onF (on || on') (jF on on' h h' G 4))]) (by simp [results, Tryd.results5, go_sem, r0, r1, r2, r3]) rfl ⟨_, rfl, ⟨ga, gg, gc, rfl, hB.base (by omega)⟩, hH.below⟩
set_option maxRecDepth 10000 in
set_option maxHeartbeats 8000000 in
theorem absWideI_0 (on : Bool) (a : Option Addr) (b off n cap : Nat) (lo hi : Nat → Int) (c d : Int) (on' : Bool) (a' : Option Addr) (b' off' n' cap' : Nat) (lo' hi' : Nat → Int) (c' d' : Int) (w : World) (hn : n ≤ 1048576) (hn' : n' ≤ 1048576) (hC : BndsAt a b off n lo hi w) (hD : BndsAt a' b' off' n' lo' hi' w) (g : absOk on n lo hi c d = false) :
    Calls Tryd.prog 5 #[.agg #[.bool on, .slice a n cap, .int .i64 c, .int .i64 d], .agg #[.bool on', .slice a' n' cap', .int .i64 c', .int .i64 d']] w fun e w' => e = .returned (.agg #[.bool false, .slice none 0 0, .int .i64 0, .int .i64 0]) ∧ Below w.heap.size w w' := by
  have H : HeldL w ((w.heap.size + 1 + 1, [Value.bool false, .slice none 0 0, .int .i64 0, .int .i64 0]) :: [(w.heap.size + 1, [Value.bool on', .slice a' n' cap', .int .i64 c', .int .i64 d']), (w.heap.size, [Value.bool on, .slice a n cap, .int .i64 c, .int .i64 d])]) (((w.alloc (.cells #[.bool on, .slice a n cap, .int .i64 c, .int .i64 d] 27)).alloc (.cells #[.bool on', .slice a' n' cap', .int .i64 c', .int .i64 d'] 27)).alloc (.cells #[.bool false, .slice none 0 0, .int .i64 0, .int .i64 0] 27)) := by
    have e1 : w.heap.size + 1 = (w.alloc (.cells #[.bool on, .slice a n cap, .int .i64 c, .int .i64 d] 27)).heap.size := by simp
    have e2 : w.heap.size + 1 + 1 = ((w.alloc (.cells #[.bool on, .slice a n cap, .int .i64 c, .int .i64 d] 27)).alloc (.cells #[.bool on', .slice a' n' cap', .int .i64 c', .int .i64 d'] 27)).heap.size := by simp
    rw [e2, e1]
    exact HeldL.newL (vs := [Value.bool false, .slice none 0 0, .int .i64 0, .int .i64 0]) (HeldL.newL (vs := [Value.bool on', .slice a' n' cap', .int .i64 c', .int .i64 d']) (HeldL.newL (vs := [Value.bool on, .slice a n cap, .int .i64 c, .int .i64 d]) (HeldL.nil w)))
  have I := hC.next H.below
  have J := hD.next H.below
  clear hC hD
  go_enter Tryd.func5, Tryd.ntmps5
  go_wp2_with fail
  refine (absOkI _ _ _ _ _ _ _ _ _ _ _ hn I).mono ?_
  rintro e w1 ⟨rfl, hb⟩
  rw [g]
  replace H := H.next hb
  replace J := J.next hb
  clear hb
  have r0 := H.cell List.mem_cons_self (i := 0) rfl
  have r1 := H.cell List.mem_cons_self (i := 1) rfl
  have r2 := H.cell List.mem_cons_self (i := 2) rfl
  have r3 := H.cell List.mem_cons_self (i := 3) rfl
  have fr := H.free _ List.mem_cons_self
  dsimp only at r0 r1 r2 r3 fr
  obtain ⟨e0, e1, e2, e3⟩ := own4c r0 r1 r2 r3
  have bE := H.below
  go_wp2_with fail
  refine bodyPost_ret (v := .agg #[.bool false, .slice none 0 0, .int .i64 0, .int .i64 0]) (by simp [results, Tryd.results5, go_sem, e0, e1, e2, e3]) rfl ⟨rfl, ?_⟩
  exact setAll_below (g := w.heap.size + 1 + 1) (by omega) [.bool false, .slice none 0 0, .int .i64 0, .int .i64 0] 0 _ bE
set_option maxRecDepth 10000 in
set_option maxHeartbeats 8000000 in
theorem absWideI_1 (on : Bool) (a : Option Addr) (b off n cap : Nat) (lo hi : Nat → Int) (c d : Int) (on' : Bool) (a' : Option Addr) (b' off' n' cap' : Nat) (lo' hi' : Nat → Int) (c' d' : Int) (w : World) (hn : n ≤ 1048576) (hn' : n' ≤ 1048576) (hC : BndsAt a b off n lo hi w) (hD : BndsAt a' b' off' n' lo' hi' w) (g : absOk on n lo hi c d = true) (g' : absOk on' n' lo' hi' c' d' = false) :
    Calls Tryd.prog 5 #[.agg #[.bool on, .slice a n cap, .int .i64 c, .int .i64 d], .agg #[.bool on', .slice a' n' cap', .int .i64 c', .int .i64 d']] w fun e w' => e = .returned (.agg #[.bool false, .slice none 0 0, .int .i64 0, .int .i64 0]) ∧ Below w.heap.size w w' := by
  have H : HeldL w ((w.heap.size + 1 + 1, [Value.bool false, .slice none 0 0, .int .i64 0, .int .i64 0]) :: [(w.heap.size + 1, [Value.bool on', .slice a' n' cap', .int .i64 c', .int .i64 d']), (w.heap.size, [Value.bool on, .slice a n cap, .int .i64 c, .int .i64 d])]) (((w.alloc (.cells #[.bool on, .slice a n cap, .int .i64 c, .int .i64 d] 27)).alloc (.cells #[.bool on', .slice a' n' cap', .int .i64 c', .int .i64 d'] 27)).alloc (.cells #[.bool false, .slice none 0 0, .int .i64 0, .int .i64 0] 27)) := by
    have e1 : w.heap.size + 1 = (w.alloc (.cells #[.bool on, .slice a n cap, .int .i64 c, .int .i64 d] 27)).heap.size := by simp
    have e2 : w.heap.size + 1 + 1 = ((w.alloc (.cells #[.bool on, .slice a n cap, .int .i64 c, .int .i64 d] 27)).alloc (.cells #[.bool on', .slice a' n' cap', .int .i64 c', .int .i64 d'] 27)).heap.size := by simp
    rw [e2, e1]
    exact HeldL.newL (vs := [Value.bool false, .slice none 0 0, .int .i64 0, .int .i64 0]) (HeldL.newL (vs := [Value.bool on', .slice a' n' cap', .int .i64 c', .int .i64 d']) (HeldL.newL (vs := [Value.bool on, .slice a n cap, .int .i64 c, .int .i64 d]) (HeldL.nil w)))
  have I := hC.next H.below
  have J := hD.next H.below
  clear hC hD
  go_enter Tryd.func5, Tryd.ntmps5
  go_wp2_with fail
  refine (absOkI _ _ _ _ _ _ _ _ _ _ _ hn I).mono ?_
  rintro e w1 ⟨rfl, hb⟩
  rw [g]
  replace H := H.next hb
  replace J := J.next hb
  clear hb
  have x0 := H.cell (List.mem_cons_of_mem _ List.mem_cons_self) (i := 0) rfl
  have x1 := H.cell (List.mem_cons_of_mem _ List.mem_cons_self) (i := 1) rfl
  have x2 := H.cell (List.mem_cons_of_mem _ List.mem_cons_self) (i := 2) rfl
  have x3 := H.cell (List.mem_cons_of_mem _ List.mem_cons_self) (i := 3) rfl
  dsimp only at x0 x1 x2 x3
  go_wp2_with fail
  refine (absOkI _ _ _ _ _ _ _ _ _ _ _ hn' J).mono ?_
  rintro e w2 ⟨rfl, hb⟩
  rw [g']
  replace H := H.next hb
  clear hb x0 x1 x2 x3
  have r0 := H.cell List.mem_cons_self (i := 0) rfl
  have r1 := H.cell List.mem_cons_self (i := 1) rfl
  have r2 := H.cell List.mem_cons_self (i := 2) rfl
  have r3 := H.cell List.mem_cons_self (i := 3) rfl
  have fr := H.free _ List.mem_cons_self
  dsimp only at r0 r1 r2 r3 fr
  obtain ⟨e0, e1, e2, e3⟩ := own4c r0 r1 r2 r3
  have bE := H.below
  go_wp2_with fail
  refine bodyPost_ret (v := .agg #[.bool false, .slice none 0 0, .int .i64 0, .int .i64 0]) (by simp [results, Tryd.results5, go_sem, e0, e1, e2, e3]) rfl ⟨rfl, ?_⟩
  exact setAll_below (g := w.heap.size + 1 + 1) (by omega) [.bool false, .slice none 0 0, .int .i64 0, .int .i64 0] 0 _ bE
theorem absWideI (on : Bool) (a : Option Addr) (b off n cap : Nat) (lo hi : Nat → Int) (c d : Int) (on' : Bool) (a' : Option Addr) (b' off' n' cap' : Nat) (lo' hi' : Nat → Int) (c' d' : Int) (w : World) (hst : StepsIn w) (hn : n ≤ 1048576) (hn' : n' ≤ 1048576) (hC : BndsAt a b off n lo hi w) (hD : BndsAt a' b' off' n' lo' hi' w) :
    Calls Tryd.prog 5 #[.agg #[.bool on, .slice a n cap, .int .i64 c, .int .i64 d], .agg #[.bool on', .slice a' n' cap', .int .i64 c', .int .i64 d']] w fun e w' => ∃ v, e = .returned v ∧ StIs w.heap.size ((absOk on n lo hi c d && absOk on' n' lo' hi' c' d') && (on || on')) (onN ((absOk on n lo hi c d && absOk on' n' lo' hi' c' d') && (on || on'))) (jF on on' (arL on lo c) (arL on' lo' c') (fun k => wideLo (arL on lo c k) (arL on hi d k) (arL on' lo' c' k) (arL on' hi' d' k))) (jF on on' (arL on hi d) (arL on' hi' d') (fun k => wideHi (arL on lo c k) (arL on hi d k) (arL on' lo' c' k) (arL on' hi' d' k))) (onF ((absOk on n lo hi c d && absOk on' n' lo' hi' c' d') && (on || on')) ((jF on on' (arL on lo c) (arL on' lo' c') (fun k => wideLo (arL on lo c k) (arL on hi d k) (arL on' lo' c' k) (arL on' hi' d' k))) 4)) (onF ((absOk on n lo hi c d && absOk on' n' lo' hi' c' d') && (on || on')) ((jF on on' (arL on hi d) (arL on' hi' d') (fun k => wideHi (arL on lo c k) (arL on hi d k) (arL on' lo' c' k) (arL on' hi' d' k))) 4)) v w' ∧ Below w.heap.size w w' := by
  cases g : absOk on n lo hi c d
  · refine (absWideI_0 _ _ _ _ _ _ _ _ _ _ _ _ _ _ _ _ _ _ _ _ _ hn hn' hC hD g).mono ?_
    rintro e w' ⟨rfl, hb⟩
    exact ⟨_, rfl, ⟨none, 0, 0, rfl, BndsIs.nil0 _ _ _ _⟩, hb⟩
  cases g' : absOk on' n' lo' hi' c' d'
  · refine (absWideI_1 _ _ _ _ _ _ _ _ _ _ _ _ _ _ _ _ _ _ _ _ _ hn hn' hC hD g g').mono ?_
    rintro e w' ⟨rfl, hb⟩
    exact ⟨_, rfl, ⟨none, 0, 0, rfl, BndsIs.nil0 _ _ _ _⟩, hb⟩
  · simp only [Bool.and_self, Bool.true_and]
    exact absWideI_t _ _ _ _ _ _ _ _ _ _ _ _ _ _ _ _ _ _ _ _ _ hst _ _ _ _ _ _ hn hn' hC hD g g' rfl rfl rfl rfl rfl rfl
end Go.Proofs.YtiehokibfdaleaaDoor
namespace Go.Proofs.YtiehokibfdaleaaDoor
open Go.ChangeShapes Go.WideShapes Go.ChangeAt Go.RowKit
set_option linter.unusedVariables false

theorem append_fresh (x b off cap : Nat) (lo hi : Nat → Int) (W : World) (hC : BndsAt (some ⟨b, off, none⟩) b off 4 lo hi W) :
    ∃ (cp : Nat) (cells : Array Value), (∀ ty, (Builtin.append_ #[23, 23] ty #[.slice (some ⟨x, 0, none⟩) 0 0, .slice (some ⟨b, off, none⟩) 4 cap]).run Tryd.prog W = .ok (.slice (some ⟨W.heap.size, 0, none⟩) 4 cp) (W.drew.alloc (.cells cells 25))) ∧ BndsIs W.heap.size 4 lo hi (some ⟨W.heap.size, 0, none⟩) W.heap.size (W.drew.alloc (.cells cells 25)) := by
  have s0 := hC.lo 0 (by omega)
  have s1 := hC.hi 0 (by omega)
  have s2 := hC.lo 1 (by omega)
  have s3 := hC.hi 1 (by omega)
  have s4 := hC.lo 2 (by omega)
  have s5 := hC.hi 2 (by omega)
  have s6 := hC.lo 3 (by omega)
  have s7 := hC.hi 3 (by omega)
  simp only [Nat.zero_mul, Nat.one_mul, Nat.reduceMul, Nat.add_assoc, Nat.reduceAdd, Nat.add_zero] at s0 s1 s2 s3 s4 s5 s6 s7
  obtain ⟨i, hi0, hzz⟩ := Option.map_eq_some_iff.1 (show (Tryd.prog.info? 25).map (fun i => (i.zero, i.size, i.bytes)) = some (some (.agg #[.int .i64 0, .int .i64 0]), 2, 16) by kernel_rfl)
  simp only [Prod.mk.injEq] at hzz
  obtain ⟨hz, hs2, hb16⟩ := hzz
  have hsrc : Src Tryd.prog i.size 23 (.slice (some ⟨b, off, none⟩) 4 cap) 4 [.int .i64 (lo 0), .int .i64 (hi 0), .int .i64 (lo 1), .int .i64 (hi 1), .int .i64 (lo 2), .int .i64 (hi 2), .int .i64 (lo 3), .int .i64 (hi 3)] W := by
    rw [hs2]
    exact Src.ofSlice _ Tryd.underlying23 ⟨b, off, none⟩ 4 cap [.int .i64 (lo 0), .int .i64 (hi 0), .int .i64 (lo 1), .int .i64 (hi 1), .int .i64 (lo 2), .int .i64 (hi 2), .int .i64 (lo 3), .int .i64 (hi 3)] rfl (fun j v hj => by
      rw [addr_mk]
      match j, hj with
      | 0, hj => simp at hj; subst hj; exact s0
      | 1, hj => simp at hj; subst hj; exact s1
      | 2, hj => simp at hj; subst hj; exact s2
      | 3, hj => simp at hj; subst hj; exact s3
      | 4, hj => simp at hj; subst hj; exact s4
      | 5, hj => simp at hj; subst hj; exact s5
      | 6, hj => simp at hj; subst hj; exact s6
      | 7, hj => simp at hj; subst hj; exact s7
      | j + 8, hj => simp at hj) (by simp [Value.oneCell'])
  have hap := fun ty => run_append_grow_src (P := Tryd.prog) W 23 23 ty 25 i _ Tryd.underlying23 hi0 hz (some ⟨x, 0, none⟩) 0 0 []
    (run_firstCells_some _ i.size 0 ⟨x, 0, none⟩ 0 0 [] (by simp) (fun j u hj => by simp at hj)) (.slice (some ⟨b, off, none⟩) 4 cap) 4 _ hsrc (by decide) (by decide) (by rw [hb16]; decide)
  simp only [List.nil_append, Nat.zero_add] at hap
  refine ⟨_, _, hap, ?_⟩
  have hget : ∀ j v, ([.int .i64 (lo 0), .int .i64 (hi 0), .int .i64 (lo 1), .int .i64 (hi 1), .int .i64 (lo 2), .int .i64 (hi 2), .int .i64 (lo 3), .int .i64 (hi 3)] : List Value)[j]? = some v → (([.int .i64 (lo 0), .int .i64 (hi 0), .int .i64 (lo 1), .int .i64 (hi 1), .int .i64 (lo 2), .int .i64 (hi 2), .int .i64 (lo 3), .int .i64 (hi 3)] : List Value).toArray ++ Builtin.zeroCells (Value.cells (.agg #[.int .i64 0, .int .i64 0])) (grownCap W 4 0 25 - 4))[j]? = some v := fun j v hj => by
    rw [Array.getElem?_append_left (by simp; have := (List.getElem?_eq_some_iff.1 hj).1; simpa using this)]
    simpa using hj
  generalize ([.int .i64 (lo 0), .int .i64 (hi 0), .int .i64 (lo 1), .int .i64 (hi 1), .int .i64 (lo 2), .int .i64 (hi 2), .int .i64 (lo 3), .int .i64 (hi 3)] : List Value).toArray ++ Builtin.zeroCells (Value.cells (.agg #[.int .i64 0, .int .i64 0])) (grownCap W 4 0 25 - 4) = cells at hget ⊢
  have e : W.heap.size = W.drew.heap.size := rfl
  have hc : ∀ j v, ([.int .i64 (lo 0), .int .i64 (hi 0), .int .i64 (lo 1), .int .i64 (hi 1), .int .i64 (lo 2), .int .i64 (hi 2), .int .i64 (lo 3), .int .i64 (hi 3)] : List Value)[j]? = some v → (W.drew.alloc (.cells cells 25)).cell? ⟨W.heap.size, j, none⟩ = some v := fun j v hj => by
    rw [e]
    unfold World.cell?
    rw [heap_alloc_new]
    simpa using hget j v hj
  refine ⟨fun _ => Nat.le_refl _, fun _ j => by rw [e]; exact World.frozen?_alloc_new _ _ _ _, ⟨fun _ => rfl, fun _ => by simp, fun k hk => ?_, fun k hk => ?_⟩⟩
  · rcases (show k = 0 ∨ k = 1 ∨ k = 2 ∨ k = 3 by omega) with rfl | rfl | rfl | rfl
    · exact hc 0 _ rfl
    · exact hc 2 _ rfl
    · exact hc 4 _ rfl
    · exact hc 6 _ rfl
  · rcases (show k = 0 ∨ k = 1 ∨ k = 2 ∨ k = 3 by omega) with rfl | rfl | rfl | rfl
    · exact hc 1 _ rfl
    · exact hc 3 _ rfl
    · exact hc 5 _ rfl
    · exact hc 7 _ rfl
/-- An append whose run is known, as one operation of a region. -/
theorem wpAt_append_run {P : Program} {ops : Array Oper} {o : Oper} {a : Act} {w : World} {Q : Exit → Act → World → Prop} {ix d : Nat} {R : Value → World → Prop}
    (hi : ops[ix]? = some o) (hd : o.dst = some d) (hg : o.guard = none) (hlt : d < a.tmps.size) (s x : Operand) (dT sT : TypeId) (hop : o.op = Op.call { callee := Callee.builtin Builtin.append, args := #[s, x], argTypes := #[dT, sT] })
    (u y v' : Value) (w' : World) (hs : a.eval s = u) (hx : a.eval x = y) (hrun : ∀ ty, (Builtin.append_ #[dT, sT] ty #[u, y]).run P w = .ok v' w') (hK : R v' w') : wpAt P ops Q ix R a w := by
  refine wpAt_of hi hd ?_
  refine wpList_append_run hg s x dT sT hop u y v' w' hs hx hrun ?_
  rw [hd]
  simp [wpList, Exit.then, Act.put, hlt]
  exact hK
def E0V (v : Value) : Prop := ∃ x : Nat, v = .slice (some ⟨x, 0, none⟩) 0 0
set_option maxHeartbeats 4000000 in
theorem copyF (a : Option Addr) (n cap : Nat) (c d : Int) (w : World) :
    Calls Tryd.prog 18 #[.agg #[.bool false, .slice a n cap, .int .i64 c, .int .i64 d]] w fun e w' => e = .returned (.agg #[.bool false, .slice none 0 0, .int .i64 0, .int .i64 0]) ∧ Below w.heap.size w w' := by
  go_enter Tryd.func18, Tryd.ntmps18
  go_wp2
  refine bodyPost_ret (v := .agg #[.bool false, .slice none 0 0, .int .i64 0, .int .i64 0]) (by simp [results, Tryd.results18, go_sem]) rfl ⟨rfl, ?_⟩
  repeat (first | exact Below.refl _ _ | refine Below.drew ?_ | refine Below.alloc ?_ (by simp; try omega) _ | refine Below.setCell ?_ (by simp; try omega) _)
set_option maxRecDepth 10000 in
set_option maxHeartbeats 16000000 in
theorem copyT (b off cap : Nat) (lo hi : Nat → Int) (c d : Int) (w : World) (hC : BndsAt (some ⟨b, off, none⟩) b off 4 lo hi w) :
    Calls Tryd.prog 18 #[.agg #[.bool true, .slice (some ⟨b, off, none⟩) 4 cap, .int .i64 c, .int .i64 d]] w fun e w' => ∃ v, e = .returned v ∧ StIs w.heap.size true 4 lo hi c d v w' ∧ Below w.heap.size w w' := by
  have H : HeldL w ((w.heap.size + 1, [Value.bool false, .slice none 0 0, .int .i64 0, .int .i64 0]) :: [(w.heap.size, [Value.bool true, .slice (some ⟨b, off, none⟩) 4 cap, .int .i64 c, .int .i64 d])]) ((w.alloc (.cells #[.bool true, .slice (some ⟨b, off, none⟩) 4 cap, .int .i64 c, .int .i64 d] 27)).alloc (.cells #[.bool false, .slice none 0 0, .int .i64 0, .int .i64 0] 27)) := by
    have e1 : w.heap.size + 1 = (w.alloc (.cells #[.bool true, .slice (some ⟨b, off, none⟩) 4 cap, .int .i64 c, .int .i64 d] 27)).heap.size := by simp
    rw [e1]
    exact HeldL.newL (vs := [Value.bool false, .slice none 0 0, .int .i64 0, .int .i64 0]) (HeldL.newL (vs := [Value.bool true, .slice (some ⟨b, off, none⟩) 4 cap, .int .i64 c, .int .i64 d]) (HeldL.nil w))
  obtain ⟨Lr, hLr⟩ : ∃ L, L = [(w.heap.size, [Value.bool true, .slice (some ⟨b, off, none⟩) 4 cap, .int .i64 c, .int .i64 d])] := ⟨_, rfl⟩
  have ne0 : ∀ e ∈ Lr, e.1 ≠ w.heap.size + 1 := by rw [hLr]; intro e he; simp at he; subst he; dsimp only; omega
  have mA : (w.heap.size, [Value.bool true, .slice (some ⟨b, off, none⟩) 4 cap, .int .i64 c, .int .i64 d]) ∈ Lr := by rw [hLr]; simp
  rw [← hLr] at H
  clear hLr
  have hS0 : JnS w (w.heap.size + 1) (w.heap.size + 1 + 1) Lr true 4 lo hi c d (fun _ => false) ((w.alloc (.cells #[.bool true, .slice (some ⟨b, off, none⟩) 4 cap, .int .i64 c, .int .i64 d] 27)).alloc (.cells #[.bool false, .slice none 0 0, .int .i64 0, .int .i64 0] 27)).drew := ⟨fun _ => H.drew, (fun e => by cases e)⟩
  clear H
  go_enter Tryd.func18, Tryd.ntmps18
  go_wp2_with fail
  refine region_inv3 [(0, 7), (1, 8), (2, 9), (3, 10), (4, 11), (5, 12), (6, 13)]
    (fun j v W => match j with
      | 0 => E0V v
      | 1 => Is (.pointer (some ⟨w.heap.size, 1, none⟩)) v
      | 2 => Is (.slice (some ⟨b, off, none⟩) 4 cap) v
      | 3 => ClV (w.heap.size + 1 + 1) lo hi v W
      | 4 => Is (.pointer (some ⟨w.heap.size, 2, none⟩)) v
      | 5 => Is (.agg #[.int .i64 c, .int .i64 d]) v
      | 6 => StIs (w.heap.size + 1 + 1) true 4 lo hi c d v W
      | _ => True)
    (fun L W => JnS w (w.heap.size + 1) (w.heap.size + 1 + 1) Lr true 4 lo hi c d L W) (Trn (w.heap.size + 1))
    (by kernel_rfl) (by kernel_rfl) (by kernel_rfl) (by kernel_rfl) (by kernel_rfl) rfl hS0 ?_ ?_ ?_
  · intro i j v W W' hji hφ hT
    match j, hji, hφ with
    | 0, _, hφ => exact hφ
    | 1, _, hφ => exact hφ
    | 2, _, hφ => exact hφ
    | 3, _, hφ => obtain ⟨g, c, e, hb⟩ := hφ; exact ⟨g, c, e, hb.trn (by omega) hT⟩
    | 4, _, hφ => exact hφ
    | 5, _, hφ => exact hφ
    | 6, _, hφ => exact StIs.trn hφ (by omega) hT
    | _ + 7, _, _ => trivial
  · intro i L vals W hi' hφ hS hL hd
    have hi2 : i < 8 := hi'
    have hbig : w.heap.size + 1 < W.heap.size := hS.big
    clear hi' hS0
    rcases (show i = 0 ∨ i = 1 ∨ i = 2 ∨ i = 3 ∨ i = 4 ∨ i = 5 ∨ i = 6 ∨ i = 7 by omega) with rfl | rfl | rfl | rfl | rfl | rfl | rfl | rfl
    · have hb : Below W.heap.size W (W.alloc (.cells #[] 25)) := (Below.refl _ _).alloc (Nat.le_refl _) _
      have hE : E0V (.slice (some ⟨W.heap.size, 0, none⟩) 0 0) := ⟨_, rfl⟩
      refine wpAt_of rfl rfl ?_
      simp only [frOf, Act.put]
      go_wp2_with fail
      first | exact ⟨trivial, hE, Trn.ofBelow hb, (hS.next hb).keep (by decide)⟩ | exact ⟨hE, Trn.ofBelow hb, (hS.next hb).keep (by decide)⟩
    · refine wpAt_of rfl rfl ?_
      simp only [frOf, Act.put]
      go_wp2_with fail
      first | exact ⟨trivial, rfl, Trn.refl, hS.keep (by decide)⟩ | exact ⟨rfl, Trn.refl, hS.keep (by decide)⟩
    · have k1 : vals 1 = .pointer (some ⟨w.heap.size, 1, none⟩) := hφ 1 (hd 1 (by decide))
      have c1 := hS.cell mA (i := 1) rfl
      dsimp only at c1
      refine wpAt_of rfl rfl ?_
      simp only [frOf, Act.put]
      go_wp2_with fail
      first | exact ⟨trivial, rfl, Trn.refl, hS.keep (by decide)⟩ | exact ⟨rfl, Trn.refl, hS.keep (by decide)⟩
    · obtain ⟨x, k0⟩ : E0V (vals 0) := hφ 0 (hd 0 (by decide))
      have k2 : vals 2 = .slice (some ⟨b, off, none⟩) 4 cap := hφ 2 (hd 2 (by decide))
      obtain ⟨cp, cells, hap, hB⟩ := append_fresh x b off cap lo hi W (hC.next hS.sub.below)
      have hb : Below W.heap.size W (W.drew.alloc (.cells cells 25)) := ((Below.refl W.heap.size W).drew).alloc (Nat.le_refl _) _
      have hCl : ClV (w.heap.size + 1 + 1) lo hi (.slice (some ⟨W.heap.size, 0, none⟩) 4 cp) (W.drew.alloc (.cells cells 25)) := ⟨_, _, rfl, hB.base hbig⟩
      exact wpAt_append_run rfl rfl rfl (by simp only [frOf, Act.put]; simp) (.tmp 7) (.tmp 9) 23 23 rfl _ _ _ _ (by simp only [frOf, Act.put, List.setIfInBounds_toArray, List.set_cons_succ, List.set_cons_zero]; exact k0) (by simp only [frOf, Act.put, List.setIfInBounds_toArray, List.set_cons_succ, List.set_cons_zero]; exact k2) hap ⟨hCl, Trn.ofBelow hb, (hS.next hb).keep (by decide)⟩
    · refine wpAt_of rfl rfl ?_
      simp only [frOf, Act.put]
      go_wp2_with fail
      first | exact ⟨trivial, rfl, Trn.refl, hS.keep (by decide)⟩ | exact ⟨rfl, Trn.refl, hS.keep (by decide)⟩
    · have k4 : vals 4 = .pointer (some ⟨w.heap.size, 2, none⟩) := hφ 4 (hd 4 (by decide))
      have c2 := hS.cell mA (i := 2) rfl
      have c3 := hS.cell mA (i := 3) rfl
      dsimp only at c2 c3
      refine wpAt_of rfl rfl ?_
      simp only [frOf, Act.put]
      go_wp2_with fail
      first | exact ⟨trivial, rfl, Trn.refl, hS.keep (by decide)⟩ | exact ⟨rfl, Trn.refl, hS.keep (by decide)⟩
    · obtain ⟨g, gc, k3, hB⟩ : ClV (w.heap.size + 1 + 1) lo hi (vals 3) W := hφ 3 (hd 3 (by decide))
      have k5 : vals 5 = .agg #[.int .i64 c, .int .i64 d] := hφ 5 (hd 5 (by decide))
      have hv : StIs (w.heap.size + 1 + 1) true 4 lo hi c d (.agg #[.bool true, .slice (some ⟨g, 0, none⟩) 4 gc, .int .i64 c, .int .i64 d]) W := ⟨_, g, gc, rfl, hB⟩
      refine wpAt_of rfl rfl ?_
      simp only [frOf, Act.put]
      go_wp2_with fail
      first | exact ⟨trivial, hv, Trn.refl, hS.keep (by decide)⟩ | exact ⟨hv, Trn.refl, hS.keep (by decide)⟩
    · obtain ⟨ga, gg, gc, k6, hB⟩ : StIs (w.heap.size + 1 + 1) true 4 lo hi c d (vals 6) W := hφ 6 (hd 6 (by decide))
      have hH := hS.1 hL
      have r0 := hH.cell List.mem_cons_self (i := 0) rfl
      have r1 := hH.cell List.mem_cons_self (i := 1) rfl
      have r2 := hH.cell List.mem_cons_self (i := 2) rfl
      have r3 := hH.cell List.mem_cons_self (i := 3) rfl
      have fr := hH.free _ List.mem_cons_self
      dsimp only at r0 r1 r2 r3 fr
      have hH' := HeldL.putCells (by omega) ne0 [.bool true, .slice ga 4 gc, .int .i64 c, .int .i64 d] 0 [Value.bool false, .slice none 0 0, .int .i64 0, .int .i64 0] W hH (by simp)
      simp only [putL, List.set_cons_succ, List.set_cons_zero] at hH'
      have hT : Trn (w.heap.size + 1) 7 W (setAll (w.heap.size + 1) 0 [.bool true, .slice ga 4 gc, .int .i64 c, .int .i64 d] W) := Trn.setAll
      have hB' := hB.trn (by omega) hT
      refine wpAt_none rfl rfl ?_
      simp only [frOf, Act.put]
      go_wp2_with fail
      have fin : JnS w (w.heap.size + 1) (w.heap.size + 1 + 1) Lr true 4 lo hi c d (upd L 7 true) (setAll (w.heap.size + 1) 0 [.bool true, .slice ga 4 gc, .int .i64 c, .int .i64 d] W) := ⟨(fun e => by rw [upd_same] at e; cases e), fun _ => ⟨ga, gg, gc, hH', hB'⟩⟩
      first | exact ⟨trivial, trivial, hT, fin⟩ | exact ⟨trivial, hT, fin⟩ | exact ⟨hT, fin⟩
  · intro L vals W hall hφ hS
    have k1 : vals 1 = .pointer (some ⟨w.heap.size, 1, none⟩) := hφ 1 (by decide)
    have k2 : vals 2 = .slice (some ⟨b, off, none⟩) 4 cap := hφ 2 (by decide)
    have k4 : vals 4 = .pointer (some ⟨w.heap.size, 2, none⟩) := hφ 4 (by decide)
    have k5 : vals 5 = .agg #[.int .i64 c, .int .i64 d] := hφ 5 (by decide)
    obtain ⟨ga, gg, gc, hH, hB⟩ := hS.2 (hall 7 (by decide))
    simp only [frOf, Act.put, List.setIfInBounds_toArray, List.set_cons_succ, List.set_cons_zero, k1, k2, k4, k5]
    clear k1 k2 k4 k5 hall hφ hS0 hS
    have r0 := hH.cell List.mem_cons_self (i := 0) rfl
    have r1 := hH.cell List.mem_cons_self (i := 1) rfl
    have r2 := hH.cell List.mem_cons_self (i := 2) rfl
    have r3 := hH.cell List.mem_cons_self (i := 3) rfl
    dsimp only at r0 r1 r2 r3
    go_wp2_with fail
    refine bodyPost_ret (v := .agg #[.bool true, .slice ga 4 gc, .int .i64 c, .int .i64 d]) (by simp [results, Tryd.results18, go_sem, r0, r1, r2, r3]) rfl ⟨_, rfl, ⟨ga, gg, gc, rfl, hB.base (by omega)⟩, hH.below⟩
end Go.Proofs.YtiehokibfdaleaaDoor
namespace Go.Proofs.YtiehokibfdaleaaDoor
open Go.ChangeShapes Go.WideShapes Go.ChangeAt Go.RowKit

end Go.Proofs.YtiehokibfdaleaaDoor
namespace Go.Proofs.YtiehokibfdaleaaDoor
open Go.ChangeShapes Go.WideShapes Go.ChangeAt Go.RowKit
set_option linter.unusedVariables false

theorem infoB : (Tryd.prog.info? 25).map (fun i => (i.zero, i.size, i.bytes)) = some (some (.agg #[.int .i64 0, .int .i64 0]), 2, 16) := by kernel_rfl
theorem wpAt_own_append2 {P : Program} {ops : Array Oper} {o : Oper} {a : Act} {w : World} {Q : Exit → Act → World → Prop} {ix d : Nat} {R : Value → World → Prop}
    (hi : ops[ix]? = some o) (hd : o.dst = some d) (hg : o.guard = none) (hlt : d < a.tmps.size) (s x : Operand) (t : TypeId) (hop : o.op = Op.call { callee := Callee.builtin Builtin.append, args := #[s, x], argTypes := #[t, t] })
    (base : Nat) (e : TypeId) (i : TypeInfo) (z : Value) (size bytes : Nat) (h1 : P.underlying t = some (.slice e)) (h2 : P.info? e = some i) (h3 : i.zero = some z) (h4 : i.size = size) (h5 : i.bytes = bytes) (h6 : z.cells.size = size) (h7 : 0 < size)
    (v : Value) (n : Nat) (xs : List Value) (hs : a.eval s = v) (hown : w.ownsRow base e size v n xs)
    (ad : Addr) (m c : Nat) (news : List Value) (hx : a.eval x = .slice (some ad) m c) (hn : news.length = m * size) (hc : ∀ j u, news[j]? = some u → w.cell? (ad.add j) = some u) (h1c : ∀ u ∈ news, u.oneCell' = true)
    (b1 : n + m ≤ maxLen) (b2 : (n + m) * bytes ≤ 140737488355328) (hbase : base ≤ w.heap.size)
    (hK : ∀ v' w', w'.ownsRow base e size v' (n + m) (xs ++ news) → w.grownBy w' v.ownBlock → R v' w') :
    wpAt P ops Q ix R a w := by
  refine wpAt_of hi hd ?_
  refine wpList_append_own w hg s x t hop base e i z size bytes h1 h2 h3 h4 h5 h6 h7 v n xs hs hown ad m c news hx hn hc h1c b1 b2 hbase (fun v' w' r1 r2 _ => ?_)
  have h := hK v' w' r1 r2
  rw [hd]
  simp [wpList, Exit.then, Act.put, hlt]
  exact h
theorem own_next {N : Nat} {e : TypeId} {s : Nat} {v : Value} {n : Nat} {xs : List Value} {W W' : World} (h : W.ownsRow N e s v n xs) (hb : ∀ g, N ≤ g → g < W.heap.size → W'.heap[g]? = W.heap[g]?) : W'.ownsRow N e s v n xs := by
  refine ⟨h.1, ?_⟩
  rcases h.2 with h2 | ⟨g, cap, cur, h1, h2, h3, h4⟩
  · exact .inl h2
  · exact .inr ⟨g, cap, cur, h1, h2, (hb g h2 (Array.getElem?_eq_some_iff.1 h3).1).trans h3, h4⟩
theorem own_below {N : Nat} {e : TypeId} {s : Nat} {v : Value} {n : Nat} {xs : List Value} {W W' : World} (h : W.ownsRow N e s v n xs) (hN : N ≤ W.heap.size) (g : W.grownBy W' v.ownBlock) : Below N W W' :=
  ⟨g.os, g.tape, g.output, g.size, fun k hk => g.block k (by omega) (fun e => by have := (h.lt k e.symm).1; omega)⟩
def rowL (F G : Nat → Int) : Nat → List Value
  | 0 => []
  | k + 1 => rowL F G k ++ [.int .i64 (F k), .int .i64 (G k)]
/-- A new list of one element. -/
def NewP (vs : List Value) (v : Value) (W : World) : Prop := ∃ g : Nat, v = .slice (some ⟨g, 0, none⟩) 1 1 ∧ g < W.heap.size ∧ ∀ j u, vs[j]? = some u → W.cell? ⟨g, j, none⟩ = some u
theorem NewP.next {vs : List Value} {v : Value} {W W' : World} (h : NewP vs v W) (hb : Below W.heap.size W W') : NewP vs v W' := by
  obtain ⟨g, e, h1, h2⟩ := h
  exact ⟨g, e, Nat.lt_of_lt_of_le h1 hb.size, fun j u hu => (hb.cell (p := ⟨g, j, none⟩) h1).trans (h2 j u hu)⟩
/-- What the loop's region holds: the state being made, its list, the new element. -/
structure JoS (w : World) (X : Nat) (Lr : List (Nat × List Value)) (cv : Value) (k : Nat) (F G : Nat → Int) (jc jd : Int) (L : Nat → Bool) (vals : Nat → Value) (W : World) : Prop where
  big : X + 1 ≤ W.heap.size
  lt : ∀ e ∈ Lr, e.1 < X
  before : L 16 = false → HeldL w ((X, [Value.bool true, cv, .int .i64 jc, .int .i64 jd]) :: Lr) W
  after : L 16 = true → HeldL w ((X, [Value.bool true, vals 14, .int .i64 jc, .int .i64 jd]) :: Lr) W
  own0 : L 14 = false → W.ownsRow (X + 1) 25 2 cv k (rowL F G k)
  own1 : L 14 = true → W.ownsRow (X + 1) 25 2 (vals 14) (k + 1) (rowL F G (k + 1))
  new : L 13 = true → L 14 = false → NewP [.int .i64 (F k), .int .i64 (G k)] (vals 13) W
  i1 : Imp 14 16 L
  i2 : Imp 1 14 L
section
variable {w : World} {X : Nat} {Lr : List (Nat × List Value)} {cv : Value} {k : Nat} {F G : Nat → Int} {jc jd : Int} {L : Nat → Bool} {vals : Nat → Value} {W W' : World}
theorem JoS.next (h : JoS w X Lr cv k F G jc jd L vals W) (hb : Below W.heap.size W W') : JoS w X Lr cv k F G jc jd L vals W' :=
  ⟨Nat.le_trans h.big hb.size, h.lt, fun e => (h.before e).next hb, fun e => (h.after e).next hb, fun e => own_next (h.own0 e) (fun g _ hg => hb.block g hg), fun e => own_next (h.own1 e) (fun g _ hg => hb.block g hg), fun e1 e2 => (h.new e1 e2).next hb, h.i1, h.i2⟩
theorem JoS.pure (h : JoS w X Lr cv k F G jc jd L vals W) {i : Nat} {v : Value} (h13 : 13 ≠ i) (h14 : 14 ≠ i) (h16 : 16 ≠ i) (_ : 0 = 0) : JoS w X Lr cv k F G jc jd (upd L i true) (upd vals i v) W :=
  ⟨h.big, h.lt, fun e => h.before (by rwa [upd_other _ _ h16] at e), fun e => by rw [upd_other _ _ h14]; exact h.after (by rwa [upd_other _ _ h16] at e), fun e => h.own0 (by rwa [upd_other _ _ h14] at e), fun e => by rw [upd_other _ _ h14]; exact h.own1 (by rwa [upd_other _ _ h14] at e), fun e1 e2 => by rw [upd_other _ _ h13]; exact h.new (by rwa [upd_other _ _ h13] at e1) (by rwa [upd_other _ _ h14] at e2), h.i1.go (fun e => absurd e.symm h16), h.i2.go (fun e => absurd e.symm h14)⟩
theorem JoS.no1 (h : JoS w X Lr cv k F G jc jd L vals W) (h1 : L 1 = false) : L 16 = false := h.i1.no (h.i2.no h1)
theorem JoS.sub (h : JoS w X Lr cv k F G jc jd L vals W) : HeldL w Lr W := by
  cases e : L 16
  · exact (h.before e).sub (fun x hx => List.mem_cons_of_mem _ hx)
  · exact (h.after e).sub (fun x hx => List.mem_cons_of_mem _ hx)
theorem JoS.below (h : JoS w X Lr cv k F G jc jd L vals W) : Below w.heap.size w W := h.sub.below
theorem JoS.cell (h : JoS w X Lr cv k F G jc jd L vals W) {e : Nat × List Value} (he : e ∈ Lr) {i : Nat} {v : Value} (hv : e.2[i]? = some v) : W.cell? ⟨e.1, i, none⟩ = some v := h.sub.cell he hv
theorem JoS.made (h : JoS w X Lr cv k F G jc jd L vals W) {v : Value} (hn : NewP [.int .i64 (F k), .int .i64 (G k)] v W) : JoS w X Lr cv k F G jc jd (upd L 13 true) (upd vals 13 v) W :=
  ⟨h.big, h.lt, fun e => h.before (by rwa [upd_other _ _ (by decide)] at e), fun e => by rw [upd_other _ _ (by decide)]; exact h.after (by rwa [upd_other _ _ (by decide)] at e), fun e => h.own0 (by rwa [upd_other _ _ (by decide)] at e), fun e => by rw [upd_other _ _ (by decide)]; exact h.own1 (by rwa [upd_other _ _ (by decide)] at e), fun _ _ => by rw [upd_same]; exact hn, h.i1.go (fun e => absurd e (by decide)), h.i2.go (fun e => absurd e (by decide))⟩
theorem HeldL.belowN {N : Nat} {L : List (Nat × List Value)} (h : HeldL w L W) (hb : Below N W W') (hN : w.heap.size ≤ N) (hL : ∀ e ∈ L, e.1 < N) : HeldL w L W' :=
  ⟨h.below.trans (hb.mono hN), fun e he => by
    obtain ⟨h1, h2, h3⟩ := h.cells e he
    exact ⟨h1, Nat.lt_of_lt_of_le h2 hb.size, fun i v hv => (hb.cell (p := ⟨e.1, i, none⟩) (hL e he)).trans (h3 i v hv)⟩,
    fun e he i => (hb.frozen (p := ⟨e.1, i, none⟩) (hL e he)).trans (h.free e he i)⟩
theorem JoS.app (h : JoS w X Lr cv k F G jc jd L vals W) (hX : w.heap.size ≤ X) (hL : L 14 = false) (h1 : L 1 = true) {v : Value} (r1 : W'.ownsRow (X + 1) 25 2 v (k + 1) (rowL F G k ++ [.int .i64 (F k), .int .i64 (G k)])) (r2 : W.grownBy W' cv.ownBlock) : JoS w X Lr cv k F G jc jd (upd L 14 true) (upd vals 14 v) W' := by
  have hb := own_below (h.own0 hL) h.big r2
  have h16 : L 16 = false := h.i1.no hL
  refine ⟨Nat.le_trans h.big r2.size, h.lt, fun _ => (h.before h16).belowN hb (by omega) (fun e he => ?_), fun e => ?_, fun e => ?_, fun _ => by rw [upd_same]; exact r1, fun _ e => ?_, h.i1.go (fun e => absurd e (by decide)), h.i2.go (fun _ => h1)⟩
  · rcases List.mem_cons.1 he with rfl | he
    · exact Nat.lt_succ_self X
    · have := h.lt e he; omega
  · rw [upd_other _ _ (by decide), h16] at e; cases e
  · rw [upd_same] at e; cases e
  · rw [upd_same] at e; cases e
theorem JoS.val (h : JoS w X Lr cv k F G jc jd L vals W) (hL : L 14 = true) : ∃ g c : Nat, vals 14 = .slice (some ⟨g, 0, none⟩) (k + 1) c := by
  rcases (h.own1 hL).2 with ⟨_, h0⟩ | ⟨g, cap, cur, h1, _⟩
  · omega
  · exact ⟨g, cap, h1⟩
theorem JoS.sto (h : JoS w X Lr cv k F G jc jd L vals W) (hL : L 14 = true) {u : Value} (hH : HeldL w ((X, [Value.bool true, vals 14, .int .i64 jc, .int .i64 jd]) :: Lr) (W.setCell ⟨X, 1, none⟩ (vals 14))) : JoS w X Lr cv k F G jc jd (upd L 16 true) (upd vals 16 u) (W.setCell ⟨X, 1, none⟩ (vals 14)) := by
  refine ⟨by simpa [World.setCell] using h.big, h.lt, fun e => ?_, fun _ => by rw [upd_other _ _ (by decide)]; exact hH, fun e => ?_, fun _ => by rw [upd_other _ _ (by decide)]; exact own_next (h.own1 hL) (fun g hg _ => Below.heap_setCell W _ _ g (by dsimp only; omega)), fun _ e => ?_, h.i1.go (fun _ => hL), h.i2.go (fun e => absurd e (by decide))⟩
  · rw [upd_same] at e; cases e
  · rw [upd_other _ _ (by decide), hL] at e; cases e
  · rw [upd_other _ _ (by decide), hL] at e; cases e
end
end Go.Proofs.YtiehokibfdaleaaDoor
