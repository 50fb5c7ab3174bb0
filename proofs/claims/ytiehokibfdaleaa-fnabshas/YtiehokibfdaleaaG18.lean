/- AbsJoin, the program's. · States as the laws of chapter 7 speak of them: ok, within, joined; plainly, no program in it but the contracts said anew. · Joined states, by what is answered: the program's AbsJoin said by mixS. A state that was answered, as a value in a region. -/
import Derived.Test.YtiehokibfdaleaaG17
import Derived.Test.YtiehokibfdaleaaG15
namespace Go.Proofs.Ytiehokibfdaleaa
open Go.ChangeShapes Go.WideShapes Go.ChangeAt Go.RowKit
set_option linter.unusedVariables false

def onN (on : Bool) : Nat := match on with
  | false => 0
  | true => 4
def onF (on : Bool) (x : Int) : Int := match on with
  | false => 0
  | true => x
theorem arrivalX (on : Bool) (a : Option Addr) (b off n cap : Nat) (lo hi : Nat → Int) (c d : Int) (w : World) (hok : absOk on n lo hi c d = true) (hC : BndsAt a b off n lo hi w) :
    Calls Try.prog 24 #[.agg #[.bool on, .slice a n cap, .int .i64 c, .int .i64 d]] w fun e w' => e = .returned (.agg #[.bool on, .int .i64 ((arL on lo c) 0), .int .i64 ((arL on hi d) 0), .int .i64 ((arL on lo c) 1), .int .i64 ((arL on hi d) 1), .int .i64 ((arL on lo c) 2), .int .i64 ((arL on hi d) 2), .int .i64 ((arL on lo c) 3), .int .i64 ((arL on hi d) 3), .int .i64 ((arL on lo c) 4), .int .i64 ((arL on hi d) 4)]) ∧ Below w.heap.size w w' := by
  cases on
  · obtain ⟨rfl, rfl, rfl⟩ : n = 0 ∧ c = 0 ∧ d = 0 := by simp [absOk] at hok; exact hok
    exact arrivalF a cap w
  · obtain rfl : n = 4 := by simp [absOk] at hok; exact hok.1
    exact arrivalT a b off cap lo hi c d w hC
theorem stateX (on : Bool) (l h : Nat → Int) (w : World) :
    Calls Try.prog 25 #[.agg #[.bool on, .int .i64 (l 0), .int .i64 (h 0), .int .i64 (l 1), .int .i64 (h 1), .int .i64 (l 2), .int .i64 (h 2), .int .i64 (l 3), .int .i64 (h 3), .int .i64 (l 4), .int .i64 (h 4)]] w fun e w' => ∃ v, e = .returned v ∧ StIs w.heap.size on (onN on) l h (onF on (l 4)) (onF on (h 4)) v w' ∧ Below w.heap.size w w' := by
  cases on
  · refine (stateF l h w).mono ?_
    rintro e w' ⟨rfl, hb⟩
    exact ⟨_, rfl, ⟨none, 0, 0, rfl, BndsIs.nil0 _ _ _ _⟩, hb⟩
  · refine (stateT l h w).mono ?_
    rintro e w' ⟨g, c, rfl, hB, hb⟩
    exact ⟨_, rfl, ⟨some ⟨g, 0, none⟩, g, c, rfl, hB⟩, hb⟩
def JnS (w : World) (R N : Nat) (Lr : List (Nat × List Value)) (on : Bool) (n : Nat) (lo hi : Nat → Int) (c d : Int) (L : Nat → Bool) (W : World) : Prop :=
  (L 7 = false → HeldL w ((R, [Value.bool false, .slice none 0 0, .int .i64 0, .int .i64 0]) :: Lr) W) ∧ (L 7 = true → ∃ (ga : Option Addr) (g gc : Nat), HeldL w ((R, [Value.bool on, .slice ga n gc, .int .i64 c, .int .i64 d]) :: Lr) W ∧ BndsIs N n lo hi ga g W)
theorem JnS.next {w : World} {R N : Nat} {Lr : List (Nat × List Value)} {on : Bool} {n : Nat} {lo hi : Nat → Int} {c d : Int} {L : Nat → Bool} {W W' : World} (h : JnS w R N Lr on n lo hi c d L W) (hb : Below W.heap.size W W') : JnS w R N Lr on n lo hi c d L W' :=
  ⟨fun e => (h.1 e).next hb, fun e => by obtain ⟨ga, g, gc, h1, h2⟩ := h.2 e; exact ⟨ga, g, gc, h1.next hb, h2.next hb⟩⟩
theorem JnS.keep {w : World} {R N : Nat} {Lr : List (Nat × List Value)} {on : Bool} {n : Nat} {lo hi : Nat → Int} {c d : Int} {L : Nat → Bool} {W : World} (h : JnS w R N Lr on n lo hi c d L W) {i : Nat} (hi' : 7 ≠ i) : JnS w R N Lr on n lo hi c d (upd L i true) W := by
  unfold JnS; rw [upd_other _ _ hi']; exact h
theorem JnS.sub {w : World} {R N : Nat} {Lr : List (Nat × List Value)} {on : Bool} {n : Nat} {lo hi : Nat → Int} {c d : Int} {L : Nat → Bool} {W : World} (h : JnS w R N Lr on n lo hi c d L W) : HeldL w Lr W := by
  cases e : L 7
  · exact (h.1 e).sub (fun x hx => List.mem_cons_of_mem _ hx)
  · obtain ⟨ga, g, gc, h1, _⟩ := h.2 e
    exact h1.sub (fun x hx => List.mem_cons_of_mem _ hx)
theorem JnS.cell {w : World} {R N : Nat} {Lr : List (Nat × List Value)} {on : Bool} {n : Nat} {lo hi : Nat → Int} {c d : Int} {L : Nat → Bool} {W : World} (h : JnS w R N Lr on n lo hi c d L W) {e : Nat × List Value} (he : e ∈ Lr) {i : Nat} {v : Value} (hv : e.2[i]? = some v) : W.cell? ⟨e.1, i, none⟩ = some v := h.sub.cell he hv
theorem JnS.big {w : World} {R N : Nat} {Lr : List (Nat × List Value)} {on : Bool} {n : Nat} {lo hi : Nat → Int} {c d : Int} {L : Nat → Bool} {W : World} (h : JnS w R N Lr on n lo hi c d L W) : R < W.heap.size := by
  cases e : L 7
  · exact (h.1 e).size List.mem_cons_self
  · obtain ⟨ga, g, gc, h1, _⟩ := h.2 e
    exact h1.size List.mem_cons_self
theorem StIs.base {B C : Nat} {on : Bool} {n : Nat} {lo hi : Nat → Int} {c d : Int} {v : Value} {W : World} (h : StIs B on n lo hi c d v W) (hC : C ≤ B) : StIs C on n lo hi c d v W := by
  obtain ⟨a, g, cap, e, h1⟩ := h
  exact ⟨a, g, cap, e, h1.base hC⟩
/-- A list of two arrivals that the region makes. -/
def SlV (N : Nat) (vs : List Value) (v : Value) (W : World) : Prop := ∃ g : Nat, v = .slice (some ⟨g, 0, none⟩) 2 2 ∧ N ≤ g ∧ g < W.heap.size ∧ ∀ j u, vs[j]? = some u → W.cell? ⟨g, j, none⟩ = some u
theorem SlV.trn {N R i : Nat} {vs : List Value} {v : Value} {W W' : World} (h : SlV N vs v W) (hR : R < N) (t : Trn R i W W') : SlV N vs v W' := by
  obtain ⟨g, e, h1, h2, h3⟩ := h
  exact ⟨g, e, h1, Nat.lt_of_lt_of_le h2 t.1, fun j u hu => (t.2 ⟨g, j, none⟩ h2 (by dsimp only; omega)).1.trans (h3 j u hu)⟩
theorem StIs.trn {N R i : Nat} {on : Bool} {n : Nat} {lo hi : Nat → Int} {c d : Int} {v : Value} {W W' : World} (h : StIs N on n lo hi c d v W) (hR : R < N) (t : Trn R i W W') : StIs N on n lo hi c d v W' := by
  obtain ⟨a, g, cap, e, h1⟩ := h
  exact ⟨a, g, cap, e, h1.trn hR t⟩
set_option maxRecDepth 10000 in
set_option maxHeartbeats 16000000 in
theorem absJoinI_t (on : Bool) (a : Option Addr) (b off n cap : Nat) (lo hi : Nat → Int) (c d : Int) (on' : Bool) (a' : Option Addr) (b' off' n' cap' : Nat) (lo' hi' : Nat → Int) (c' d' : Int) (w : World) (l h l' h' F G : Nat → Int) (hn : n ≤ 1048576) (hn' : n' ≤ 1048576) (hC : BndsAt a b off n lo hi w) (hD : BndsAt a' b' off' n' lo' hi' w)
    (g : absOk on n lo hi c d = true) (g' : absOk on' n' lo' hi' c' d' = true) (hl : arL on lo c = l) (hh : arL on hi d = h) (hl' : arL on' lo' c' = l') (hh' : arL on' hi' d' = h') (hF : (fun k => joinLo (l k) (h k) (l' k) (h' k)) = F) (hG : (fun k => joinHi (l k) (h k) (l' k) (h' k)) = G) :
    Calls Try.prog 7 #[.agg #[.bool on, .slice a n cap, .int .i64 c, .int .i64 d], .agg #[.bool on', .slice a' n' cap', .int .i64 c', .int .i64 d']] w fun e w' => ∃ v, e = .returned v ∧ StIs w.heap.size (on || on') (onN (on || on')) (jF on on' l l' F) (jF on on' h h' G) (onF (on || on') (jF on on' l l' F 4)) (onF (on || on') (jF on on' h h' G 4)) v w' ∧ Below w.heap.size w w' := by
  have H : HeldL w ((w.heap.size + 1 + 1, [Value.bool false, .slice none 0 0, .int .i64 0, .int .i64 0]) :: [(w.heap.size + 1, [Value.bool on', .slice a' n' cap', .int .i64 c', .int .i64 d']), (w.heap.size, [Value.bool on, .slice a n cap, .int .i64 c, .int .i64 d])]) (((w.alloc (.cells #[.bool on, .slice a n cap, .int .i64 c, .int .i64 d] 27)).alloc (.cells #[.bool on', .slice a' n' cap', .int .i64 c', .int .i64 d'] 27)).alloc (.cells #[.bool false, .slice none 0 0, .int .i64 0, .int .i64 0] 27)) := by
    have e1 : w.heap.size + 1 = (w.alloc (.cells #[.bool on, .slice a n cap, .int .i64 c, .int .i64 d] 27)).heap.size := by simp
    have e2 : w.heap.size + 1 + 1 = ((w.alloc (.cells #[.bool on, .slice a n cap, .int .i64 c, .int .i64 d] 27)).alloc (.cells #[.bool on', .slice a' n' cap', .int .i64 c', .int .i64 d'] 27)).heap.size := by simp
    rw [e2, e1]
    exact HeldL.newL (vs := [Value.bool false, .slice none 0 0, .int .i64 0, .int .i64 0]) (HeldL.newL (vs := [Value.bool on', .slice a' n' cap', .int .i64 c', .int .i64 d']) (HeldL.newL (vs := [Value.bool on, .slice a n cap, .int .i64 c, .int .i64 d]) (HeldL.nil w)))
  obtain ⟨Lr, hLr⟩ : ∃ L, L = [(w.heap.size + 1, [Value.bool on', .slice a' n' cap', .int .i64 c', .int .i64 d']), (w.heap.size, [Value.bool on, .slice a n cap, .int .i64 c, .int .i64 d])] := ⟨_, rfl⟩
  have ne0 : ∀ e ∈ Lr, e.1 ≠ w.heap.size + 1 + 1 := by rw [hLr]; intro e he; simp at he; rcases he with rfl | rfl <;> dsimp only <;> omega
  have mA : (w.heap.size, [Value.bool on, .slice a n cap, .int .i64 c, .int .i64 d]) ∈ Lr := by rw [hLr]; simp
  have mB : (w.heap.size + 1, [Value.bool on', .slice a' n' cap', .int .i64 c', .int .i64 d']) ∈ Lr := by rw [hLr]; simp
  rw [← hLr] at H
  clear hLr
  have I := hC.next H.below
  have J := hD.next H.below
  go_enter Try.func7, Try.ntmps7
  go_wp2_with fail
  refine (absOkI _ _ _ _ _ _ _ _ _ _ _ hn I).mono ?_
  rintro e w1 ⟨rfl, hb⟩
  rw [g]
  replace H := H.next hb
  replace I := I.next hb
  replace J := J.next hb
  clear hb
  have x0 := H.cell (List.mem_cons_of_mem _ mB) (i := 0) rfl
  have x1 := H.cell (List.mem_cons_of_mem _ mB) (i := 1) rfl
  have x2 := H.cell (List.mem_cons_of_mem _ mB) (i := 2) rfl
  have x3 := H.cell (List.mem_cons_of_mem _ mB) (i := 3) rfl
  dsimp only at x0 x1 x2 x3
  go_wp2_with fail
  refine (absOkI _ _ _ _ _ _ _ _ _ _ _ hn' J).mono ?_
  rintro e w2 ⟨rfl, hb⟩
  rw [g']
  replace H := H.next hb
  replace I := I.next hb
  replace J := J.next hb
  clear hb x0 x1 x2 x3
  have hz : w.heap.size + 1 + 1 + 1 ≤ w2.heap.size := H.size List.mem_cons_self
  have hS0 : JnS w (w.heap.size + 1 + 1) (w.heap.size + 1 + 1 + 1) Lr (on || on') (onN (on || on')) (jF on on' l l' F) (jF on on' h h' G) (onF (on || on') (jF on on' l l' F 4)) (onF (on || on') (jF on on' h h' G 4)) (fun _ => false) w2.drew := ⟨fun _ => H.drew, (fun e => by cases e)⟩
  clear H I J hz
  go_wp2_with fail
  refine region_inv3 [(0, 14), (1, 15), (2, 16), (3, 17), (4, 18), (5, 19), (6, 20)]
    (fun j v W => match j with
      | 0 => Is (.agg #[.bool on, .slice a n cap, .int .i64 c, .int .i64 d]) v
      | 1 => Is (.agg #[.bool on, .int .i64 (l 0), .int .i64 (h 0), .int .i64 (l 1), .int .i64 (h 1), .int .i64 (l 2), .int .i64 (h 2), .int .i64 (l 3), .int .i64 (h 3), .int .i64 (l 4), .int .i64 (h 4)]) v
      | 2 => Is (.agg #[.bool on', .slice a' n' cap', .int .i64 c', .int .i64 d']) v
      | 3 => Is (.agg #[.bool on', .int .i64 (l' 0), .int .i64 (h' 0), .int .i64 (l' 1), .int .i64 (h' 1), .int .i64 (l' 2), .int .i64 (h' 2), .int .i64 (l' 3), .int .i64 (h' 3), .int .i64 (l' 4), .int .i64 (h' 4)]) v
      | 4 => SlV (w.heap.size + 1 + 1 + 1) [Value.bool on, .int .i64 (l 0), .int .i64 (h 0), .int .i64 (l 1), .int .i64 (h 1), .int .i64 (l 2), .int .i64 (h 2), .int .i64 (l 3), .int .i64 (h 3), .int .i64 (l 4), .int .i64 (h 4), .bool on', .int .i64 (l' 0), .int .i64 (h' 0), .int .i64 (l' 1), .int .i64 (h' 1), .int .i64 (l' 2), .int .i64 (h' 2), .int .i64 (l' 3), .int .i64 (h' 3), .int .i64 (l' 4), .int .i64 (h' 4)] v W
      | 5 => Is (.agg #[.bool (on || on'), .int .i64 (jF on on' l l' F 0), .int .i64 (jF on on' h h' G 0), .int .i64 (jF on on' l l' F 1), .int .i64 (jF on on' h h' G 1), .int .i64 (jF on on' l l' F 2), .int .i64 (jF on on' h h' G 2), .int .i64 (jF on on' l l' F 3), .int .i64 (jF on on' h h' G 3), .int .i64 (jF on on' l l' F 4), .int .i64 (jF on on' h h' G 4)]) v
      | 6 => StIs (w.heap.size + 1 + 1 + 1) (on || on') (onN (on || on')) (jF on on' l l' F) (jF on on' h h' G) (onF (on || on') (jF on on' l l' F 4)) (onF (on || on') (jF on on' h h' G 4)) v W
      | _ => True)
    (fun L W => JnS w (w.heap.size + 1 + 1) (w.heap.size + 1 + 1 + 1) Lr (on || on') (onN (on || on')) (jF on on' l l' F) (jF on on' h h' G) (onF (on || on') (jF on on' l l' F 4)) (onF (on || on') (jF on on' h h' G 4)) L W) (Trn (w.heap.size + 1 + 1))
    (by kernel_rfl) (by kernel_rfl) (by kernel_rfl) (by kernel_rfl) (by kernel_rfl) rfl hS0 ?_ ?_ ?_
  · intro i j v W W' hji hφ hT
    match j, hji, hφ with
    | 0, _, hφ => exact hφ
    | 1, _, hφ => exact hφ
    | 2, _, hφ => exact hφ
    | 3, _, hφ => exact hφ
    | 4, _, hφ => exact SlV.trn hφ (by omega) hT
    | 5, _, hφ => exact hφ
    | 6, _, hφ => exact StIs.trn hφ (by omega) hT
    | _ + 7, _, _ => trivial
  · intro i L vals W hi' hφ hS hL hd
    have hi2 : i < 8 := hi'
    have hbig : w.heap.size + 1 + 1 < W.heap.size := hS.big
    clear hi' hS0
    rcases (show i = 0 ∨ i = 1 ∨ i = 2 ∨ i = 3 ∨ i = 4 ∨ i = 5 ∨ i = 6 ∨ i = 7 by omega) with rfl | rfl | rfl | rfl | rfl | rfl | rfl | rfl
    · have x0 := hS.cell mA (i := 0) rfl
      have x1 := hS.cell mA (i := 1) rfl
      have x2 := hS.cell mA (i := 2) rfl
      have x3 := hS.cell mA (i := 3) rfl
      dsimp only at x0 x1 x2 x3
      refine wpAt_of rfl rfl ?_
      simp only [frOf, Act.put]
      go_wp2_with fail
      first | exact ⟨trivial, rfl, Trn.refl, hS.keep (by decide)⟩ | exact ⟨rfl, Trn.refl, hS.keep (by decide)⟩
    · have k0 : vals 0 = .agg #[.bool on, .slice a n cap, .int .i64 c, .int .i64 d] := hφ 0 (hd 0 (by decide))
      refine wpAt_of rfl rfl ?_
      simp only [frOf, Act.put]
      go_wp2_with fail
      refine (arrivalX _ _ _ _ _ _ _ _ _ _ _ g (hC.next hS.sub.below)).mono ?_
      rintro e W' ⟨rfl, hb⟩
      rw [hl, hh]
      go_wp2_with fail
      first | exact ⟨trivial, rfl, Trn.ofBelow hb, (hS.next hb).keep (by decide)⟩ | exact ⟨rfl, Trn.ofBelow hb, (hS.next hb).keep (by decide)⟩
    · have x0 := hS.cell mB (i := 0) rfl
      have x1 := hS.cell mB (i := 1) rfl
      have x2 := hS.cell mB (i := 2) rfl
      have x3 := hS.cell mB (i := 3) rfl
      dsimp only at x0 x1 x2 x3
      refine wpAt_of rfl rfl ?_
      simp only [frOf, Act.put]
      go_wp2_with fail
      first | exact ⟨trivial, rfl, Trn.refl, hS.keep (by decide)⟩ | exact ⟨rfl, Trn.refl, hS.keep (by decide)⟩
    · have k2 : vals 2 = .agg #[.bool on', .slice a' n' cap', .int .i64 c', .int .i64 d'] := hφ 2 (hd 2 (by decide))
      refine wpAt_of rfl rfl ?_
      simp only [frOf, Act.put]
      go_wp2_with fail
      refine (arrivalX _ _ _ _ _ _ _ _ _ _ _ g' (hD.next hS.sub.below)).mono ?_
      rintro e W' ⟨rfl, hb⟩
      rw [hl', hh']
      go_wp2_with fail
      first | exact ⟨trivial, rfl, Trn.ofBelow hb, (hS.next hb).keep (by decide)⟩ | exact ⟨rfl, Trn.ofBelow hb, (hS.next hb).keep (by decide)⟩
    · have k1 : vals 1 = .agg #[.bool on, .int .i64 (l 0), .int .i64 (h 0), .int .i64 (l 1), .int .i64 (h 1), .int .i64 (l 2), .int .i64 (h 2), .int .i64 (l 3), .int .i64 (h 3), .int .i64 (l 4), .int .i64 (h 4)] := hφ 1 (hd 1 (by decide))
      have k3 : vals 3 = .agg #[.bool on', .int .i64 (l' 0), .int .i64 (h' 0), .int .i64 (l' 1), .int .i64 (h' 1), .int .i64 (l' 2), .int .i64 (h' 2), .int .i64 (l' 3), .int .i64 (h' 3), .int .i64 (l' 4), .int .i64 (h' 4)] := hφ 3 (hd 3 (by decide))
      have hb : Below W.heap.size W (W.alloc (.cells #[.bool on, .int .i64 (l 0), .int .i64 (h 0), .int .i64 (l 1), .int .i64 (h 1), .int .i64 (l 2), .int .i64 (h 2), .int .i64 (l 3), .int .i64 (h 3), .int .i64 (l 4), .int .i64 (h 4), .bool on', .int .i64 (l' 0), .int .i64 (h' 0), .int .i64 (l' 1), .int .i64 (h' 1), .int .i64 (l' 2), .int .i64 (h' 2), .int .i64 (l' 3), .int .i64 (h' 3), .int .i64 (l' 4), .int .i64 (h' 4)] 49)) := (Below.refl _ _).alloc (Nat.le_refl _) _
      have hSl : SlV (w.heap.size + 1 + 1 + 1) [Value.bool on, .int .i64 (l 0), .int .i64 (h 0), .int .i64 (l 1), .int .i64 (h 1), .int .i64 (l 2), .int .i64 (h 2), .int .i64 (l 3), .int .i64 (h 3), .int .i64 (l 4), .int .i64 (h 4), .bool on', .int .i64 (l' 0), .int .i64 (h' 0), .int .i64 (l' 1), .int .i64 (h' 1), .int .i64 (l' 2), .int .i64 (h' 2), .int .i64 (l' 3), .int .i64 (h' 3), .int .i64 (l' 4), .int .i64 (h' 4)] (.slice (some ⟨W.heap.size, 0, none⟩) 2 2) (W.alloc (.cells #[.bool on, .int .i64 (l 0), .int .i64 (h 0), .int .i64 (l 1), .int .i64 (h 1), .int .i64 (l 2), .int .i64 (h 2), .int .i64 (l 3), .int .i64 (h 3), .int .i64 (l 4), .int .i64 (h 4), .bool on', .int .i64 (l' 0), .int .i64 (h' 0), .int .i64 (l' 1), .int .i64 (h' 1), .int .i64 (l' 2), .int .i64 (h' 2), .int .i64 (l' 3), .int .i64 (h' 3), .int .i64 (l' 4), .int .i64 (h' 4)] 49)) := ⟨W.heap.size, rfl, hbig, by simp, fun j u hu => by unfold World.cell?; rw [heap_alloc_new]; simpa using hu⟩
      refine wpAt_of rfl rfl ?_
      simp only [frOf, Act.put]
      go_wp2_with fail
      first | exact ⟨trivial, hSl, Trn.ofBelow hb, (hS.next hb).keep (by decide)⟩ | exact ⟨hSl, Trn.ofBelow hb, (hS.next hb).keep (by decide)⟩
    · obtain ⟨q, k4, _, hq, hcs⟩ : SlV (w.heap.size + 1 + 1 + 1) [Value.bool on, .int .i64 (l 0), .int .i64 (h 0), .int .i64 (l 1), .int .i64 (h 1), .int .i64 (l 2), .int .i64 (h 2), .int .i64 (l 3), .int .i64 (h 3), .int .i64 (l 4), .int .i64 (h 4), .bool on', .int .i64 (l' 0), .int .i64 (h' 0), .int .i64 (l' 1), .int .i64 (h' 1), .int .i64 (l' 2), .int .i64 (h' 2), .int .i64 (l' 3), .int .i64 (h' 3), .int .i64 (l' 4), .int .i64 (h' 4)] (vals 4) W := hφ 4 (hd 4 (by decide))
      refine wpAt_of rfl rfl ?_
      simp only [frOf, Act.put]
      go_wp2_with fail
      refine (joined2 q 2 on on' l h l' h' F G hF hG _ hcs hq).mono ?_
      rintro e W' ⟨rfl, hb⟩
      go_wp2_with fail
      first | exact ⟨trivial, rfl, Trn.ofBelow hb, (hS.next hb).keep (by decide)⟩ | exact ⟨rfl, Trn.ofBelow hb, (hS.next hb).keep (by decide)⟩
    · have k5 : vals 5 = .agg #[.bool (on || on'), .int .i64 (jF on on' l l' F 0), .int .i64 (jF on on' h h' G 0), .int .i64 (jF on on' l l' F 1), .int .i64 (jF on on' h h' G 1), .int .i64 (jF on on' l l' F 2), .int .i64 (jF on on' h h' G 2), .int .i64 (jF on on' l l' F 3), .int .i64 (jF on on' h h' G 3), .int .i64 (jF on on' l l' F 4), .int .i64 (jF on on' h h' G 4)] := hφ 5 (hd 5 (by decide))
      refine wpAt_of rfl rfl ?_
      simp only [frOf, Act.put]
      go_wp2_with fail
      refine (stateX (on || on') (jF on on' l l' F) (jF on on' h h' G) _).mono ?_
      rintro e W' ⟨v, rfl, hv, hb⟩
      replace hv := hv.base (C := w.heap.size + 1 + 1 + 1) hbig
      go_wp2_with fail
      first | exact ⟨trivial, hv, Trn.ofBelow hb, (hS.next hb).keep (by decide)⟩ | exact ⟨hv, Trn.ofBelow hb, (hS.next hb).keep (by decide)⟩
    · obtain ⟨ga, gg, gc, k6, hB⟩ : StIs (w.heap.size + 1 + 1 + 1) (on || on') (onN (on || on')) (jF on on' l l' F) (jF on on' h h' G) (onF (on || on') (jF on on' l l' F 4)) (onF (on || on') (jF on on' h h' G 4)) (vals 6) W := hφ 6 (hd 6 (by decide))
      have hH := hS.1 hL
      have r0 := hH.cell List.mem_cons_self (i := 0) rfl
      have r1 := hH.cell List.mem_cons_self (i := 1) rfl
      have r2 := hH.cell List.mem_cons_self (i := 2) rfl
      have r3 := hH.cell List.mem_cons_self (i := 3) rfl
      have fr := hH.free _ List.mem_cons_self
      dsimp only at r0 r1 r2 r3 fr
      have hH' := HeldL.putCells (by omega) ne0 [.bool (on || on'), .slice ga (onN (on || on')) gc, .int .i64 (onF (on || on') (jF on on' l l' F 4)), .int .i64 (onF (on || on') (jF on on' h h' G 4))] 0 [Value.bool false, .slice none 0 0, .int .i64 0, .int .i64 0] W hH (by simp)
      simp only [putL, List.set_cons_succ, List.set_cons_zero] at hH'
      have hT : Trn (w.heap.size + 1 + 1) 7 W (setAll (w.heap.size + 1 + 1) 0 [.bool (on || on'), .slice ga (onN (on || on')) gc, .int .i64 (onF (on || on') (jF on on' l l' F 4)), .int .i64 (onF (on || on') (jF on on' h h' G 4))] W) := Trn.setAll
      have hB' := hB.trn (by omega) hT
      refine wpAt_none rfl rfl ?_
      simp only [frOf, Act.put]
      go_wp2_with fail
      have fin : JnS w (w.heap.size + 1 + 1) (w.heap.size + 1 + 1 + 1) Lr (on || on') (onN (on || on')) (jF on on' l l' F) (jF on on' h h' G) (onF (on || on') (jF on on' l l' F 4)) (onF (on || on') (jF on on' h h' G 4)) (upd L 7 true) (setAll (w.heap.size + 1 + 1) 0 [.bool (on || on'), .slice ga (onN (on || on')) gc, .int .i64 (onF (on || on') (jF on on' l l' F 4)), .int .i64 (onF (on || on') (jF on on' h h' G 4))] W) := ⟨(fun e => by rw [upd_same] at e; cases e), fun _ => ⟨ga, gg, gc, hH', hB'⟩⟩
      first | exact ⟨trivial, trivial, hT, fin⟩ | exact ⟨trivial, hT, fin⟩ | exact ⟨hT, fin⟩
  · intro L vals W hall hφ hS
    have k0 : vals 0 = .agg #[.bool on, .slice a n cap, .int .i64 c, .int .i64 d] := hφ 0 (by decide)
    have k1 : vals 1 = .agg #[.bool on, .int .i64 (l 0), .int .i64 (h 0), .int .i64 (l 1), .int .i64 (h 1), .int .i64 (l 2), .int .i64 (h 2), .int .i64 (l 3), .int .i64 (h 3), .int .i64 (l 4), .int .i64 (h 4)] := hφ 1 (by decide)
    have k2 : vals 2 = .agg #[.bool on', .slice a' n' cap', .int .i64 c', .int .i64 d'] := hφ 2 (by decide)
    have k3 : vals 3 = .agg #[.bool on', .int .i64 (l' 0), .int .i64 (h' 0), .int .i64 (l' 1), .int .i64 (h' 1), .int .i64 (l' 2), .int .i64 (h' 2), .int .i64 (l' 3), .int .i64 (h' 3), .int .i64 (l' 4), .int .i64 (h' 4)] := hφ 3 (by decide)
    have k5 : vals 5 = .agg #[.bool (on || on'), .int .i64 (jF on on' l l' F 0), .int .i64 (jF on on' h h' G 0), .int .i64 (jF on on' l l' F 1), .int .i64 (jF on on' h h' G 1), .int .i64 (jF on on' l l' F 2), .int .i64 (jF on on' h h' G 2), .int .i64 (jF on on' l l' F 3), .int .i64 (jF on on' h h' G 3), .int .i64 (jF on on' l l' F 4), .int .i64 (jF on on' h h' G 4)] := hφ 5 (by decide)
    obtain ⟨ga, gg, gc, hH, hB⟩ := hS.2 (hall 7 (by decide))
    simp only [frOf, Act.put, List.setIfInBounds_toArray, List.set_cons_succ, List.set_cons_zero, k0, k1, k2, k3, k5]
    clear k0 k1 k2 k3 k5 hall hφ hS0 hS
    have r0 := hH.cell List.mem_cons_self (i := 0) rfl
    have r1 := hH.cell List.mem_cons_self (i := 1) rfl
    have r2 := hH.cell List.mem_cons_self (i := 2) rfl
    have r3 := hH.cell List.mem_cons_self (i := 3) rfl
    dsimp only at r0 r1 r2 r3
    go_wp2_with fail
    refine bodyPost_ret (v := .agg #[.bool (on || on'), .slice ga (onN (on || on')) gc, .int .i64 (onF (on || on') (jF on on' l l' F 4)), .int .i64 (onF (on || on') (jF on on' h h' G 4))]) (by simp [results, Try.results7, go_sem, r0, r1, r2, r3]) rfl ⟨_, rfl, ⟨ga, gg, gc, rfl, hB.base (by omega)⟩, hH.below⟩
set_option maxRecDepth 10000 in
set_option maxHeartbeats 8000000 in
theorem absJoinI_0 (on : Bool) (a : Option Addr) (b off n cap : Nat) (lo hi : Nat → Int) (c d : Int) (on' : Bool) (a' : Option Addr) (b' off' n' cap' : Nat) (lo' hi' : Nat → Int) (c' d' : Int) (w : World) (hn : n ≤ 1048576) (hn' : n' ≤ 1048576) (hC : BndsAt a b off n lo hi w) (hD : BndsAt a' b' off' n' lo' hi' w) (g : absOk on n lo hi c d = false) :
    Calls Try.prog 7 #[.agg #[.bool on, .slice a n cap, .int .i64 c, .int .i64 d], .agg #[.bool on', .slice a' n' cap', .int .i64 c', .int .i64 d']] w fun e w' => e = .returned (.agg #[.bool false, .slice none 0 0, .int .i64 0, .int .i64 0]) ∧ Below w.heap.size w w' := by
  have H : HeldL w ((w.heap.size + 1 + 1, [Value.bool false, .slice none 0 0, .int .i64 0, .int .i64 0]) :: [(w.heap.size + 1, [Value.bool on', .slice a' n' cap', .int .i64 c', .int .i64 d']), (w.heap.size, [Value.bool on, .slice a n cap, .int .i64 c, .int .i64 d])]) (((w.alloc (.cells #[.bool on, .slice a n cap, .int .i64 c, .int .i64 d] 27)).alloc (.cells #[.bool on', .slice a' n' cap', .int .i64 c', .int .i64 d'] 27)).alloc (.cells #[.bool false, .slice none 0 0, .int .i64 0, .int .i64 0] 27)) := by
    have e1 : w.heap.size + 1 = (w.alloc (.cells #[.bool on, .slice a n cap, .int .i64 c, .int .i64 d] 27)).heap.size := by simp
    have e2 : w.heap.size + 1 + 1 = ((w.alloc (.cells #[.bool on, .slice a n cap, .int .i64 c, .int .i64 d] 27)).alloc (.cells #[.bool on', .slice a' n' cap', .int .i64 c', .int .i64 d'] 27)).heap.size := by simp
    rw [e2, e1]
    exact HeldL.newL (vs := [Value.bool false, .slice none 0 0, .int .i64 0, .int .i64 0]) (HeldL.newL (vs := [Value.bool on', .slice a' n' cap', .int .i64 c', .int .i64 d']) (HeldL.newL (vs := [Value.bool on, .slice a n cap, .int .i64 c, .int .i64 d]) (HeldL.nil w)))
  have I := hC.next H.below
  have J := hD.next H.below
  clear hC hD
  go_enter Try.func7, Try.ntmps7
  go_wp2_with fail
  refine (absOkI _ _ _ _ _ _ _ _ _ _ _ hn I).mono ?_
  rintro e w1 ⟨rfl, hb⟩
  rw [g]
  replace H := H.next hb
  replace J := J.next hb
  clear hb
  have r0 := H.cell List.mem_cons_self (i := 0) rfl
  have r1 := H.cell List.mem_cons_self (i := 1) rfl
  have r2 := H.cell List.mem_cons_self (i := 2) rfl
  have r3 := H.cell List.mem_cons_self (i := 3) rfl
  have fr := H.free _ List.mem_cons_self
  dsimp only at r0 r1 r2 r3 fr
  obtain ⟨e0, e1, e2, e3⟩ := own4c r0 r1 r2 r3
  have bE := H.below
  go_wp2_with fail
  refine bodyPost_ret (v := .agg #[.bool false, .slice none 0 0, .int .i64 0, .int .i64 0]) (by simp [results, Try.results7, go_sem, e0, e1, e2, e3]) rfl ⟨rfl, ?_⟩
  exact setAll_below (g := w.heap.size + 1 + 1) (by omega) [.bool false, .slice none 0 0, .int .i64 0, .int .i64 0] 0 _ bE
set_option maxRecDepth 10000 in
set_option maxHeartbeats 8000000 in
theorem absJoinI_1 (on : Bool) (a : Option Addr) (b off n cap : Nat) (lo hi : Nat → Int) (c d : Int) (on' : Bool) (a' : Option Addr) (b' off' n' cap' : Nat) (lo' hi' : Nat → Int) (c' d' : Int) (w : World) (hn : n ≤ 1048576) (hn' : n' ≤ 1048576) (hC : BndsAt a b off n lo hi w) (hD : BndsAt a' b' off' n' lo' hi' w) (g : absOk on n lo hi c d = true) (g' : absOk on' n' lo' hi' c' d' = false) :
    Calls Try.prog 7 #[.agg #[.bool on, .slice a n cap, .int .i64 c, .int .i64 d], .agg #[.bool on', .slice a' n' cap', .int .i64 c', .int .i64 d']] w fun e w' => e = .returned (.agg #[.bool false, .slice none 0 0, .int .i64 0, .int .i64 0]) ∧ Below w.heap.size w w' := by
  have H : HeldL w ((w.heap.size + 1 + 1, [Value.bool false, .slice none 0 0, .int .i64 0, .int .i64 0]) :: [(w.heap.size + 1, [Value.bool on', .slice a' n' cap', .int .i64 c', .int .i64 d']), (w.heap.size, [Value.bool on, .slice a n cap, .int .i64 c, .int .i64 d])]) (((w.alloc (.cells #[.bool on, .slice a n cap, .int .i64 c, .int .i64 d] 27)).alloc (.cells #[.bool on', .slice a' n' cap', .int .i64 c', .int .i64 d'] 27)).alloc (.cells #[.bool false, .slice none 0 0, .int .i64 0, .int .i64 0] 27)) := by
    have e1 : w.heap.size + 1 = (w.alloc (.cells #[.bool on, .slice a n cap, .int .i64 c, .int .i64 d] 27)).heap.size := by simp
    have e2 : w.heap.size + 1 + 1 = ((w.alloc (.cells #[.bool on, .slice a n cap, .int .i64 c, .int .i64 d] 27)).alloc (.cells #[.bool on', .slice a' n' cap', .int .i64 c', .int .i64 d'] 27)).heap.size := by simp
    rw [e2, e1]
    exact HeldL.newL (vs := [Value.bool false, .slice none 0 0, .int .i64 0, .int .i64 0]) (HeldL.newL (vs := [Value.bool on', .slice a' n' cap', .int .i64 c', .int .i64 d']) (HeldL.newL (vs := [Value.bool on, .slice a n cap, .int .i64 c, .int .i64 d]) (HeldL.nil w)))
  have I := hC.next H.below
  have J := hD.next H.below
  clear hC hD
  go_enter Try.func7, Try.ntmps7
  go_wp2_with fail
  refine (absOkI _ _ _ _ _ _ _ _ _ _ _ hn I).mono ?_
  rintro e w1 ⟨rfl, hb⟩
  rw [g]
  replace H := H.next hb
  replace J := J.next hb
  clear hb
  have x0 := H.cell (List.mem_cons_of_mem _ List.mem_cons_self) (i := 0) rfl
  have x1 := H.cell (List.mem_cons_of_mem _ List.mem_cons_self) (i := 1) rfl
  have x2 := H.cell (List.mem_cons_of_mem _ List.mem_cons_self) (i := 2) rfl
  have x3 := H.cell (List.mem_cons_of_mem _ List.mem_cons_self) (i := 3) rfl
  dsimp only at x0 x1 x2 x3
  go_wp2_with fail
  refine (absOkI _ _ _ _ _ _ _ _ _ _ _ hn' J).mono ?_
  rintro e w2 ⟨rfl, hb⟩
  rw [g']
  replace H := H.next hb
  clear hb x0 x1 x2 x3
  have r0 := H.cell List.mem_cons_self (i := 0) rfl
  have r1 := H.cell List.mem_cons_self (i := 1) rfl
  have r2 := H.cell List.mem_cons_self (i := 2) rfl
  have r3 := H.cell List.mem_cons_self (i := 3) rfl
  have fr := H.free _ List.mem_cons_self
  dsimp only at r0 r1 r2 r3 fr
  obtain ⟨e0, e1, e2, e3⟩ := own4c r0 r1 r2 r3
  have bE := H.below
  go_wp2_with fail
  refine bodyPost_ret (v := .agg #[.bool false, .slice none 0 0, .int .i64 0, .int .i64 0]) (by simp [results, Try.results7, go_sem, e0, e1, e2, e3]) rfl ⟨rfl, ?_⟩
  exact setAll_below (g := w.heap.size + 1 + 1) (by omega) [.bool false, .slice none 0 0, .int .i64 0, .int .i64 0] 0 _ bE
theorem absJoinI (on : Bool) (a : Option Addr) (b off n cap : Nat) (lo hi : Nat → Int) (c d : Int) (on' : Bool) (a' : Option Addr) (b' off' n' cap' : Nat) (lo' hi' : Nat → Int) (c' d' : Int) (w : World) (hn : n ≤ 1048576) (hn' : n' ≤ 1048576) (hC : BndsAt a b off n lo hi w) (hD : BndsAt a' b' off' n' lo' hi' w) :
    Calls Try.prog 7 #[.agg #[.bool on, .slice a n cap, .int .i64 c, .int .i64 d], .agg #[.bool on', .slice a' n' cap', .int .i64 c', .int .i64 d']] w fun e w' => ∃ v, e = .returned v ∧ StIs w.heap.size ((absOk on n lo hi c d && absOk on' n' lo' hi' c' d') && (on || on')) (onN ((absOk on n lo hi c d && absOk on' n' lo' hi' c' d') && (on || on'))) (jF on on' (arL on lo c) (arL on' lo' c') (fun k => joinLo (arL on lo c k) (arL on hi d k) (arL on' lo' c' k) (arL on' hi' d' k))) (jF on on' (arL on hi d) (arL on' hi' d') (fun k => joinHi (arL on lo c k) (arL on hi d k) (arL on' lo' c' k) (arL on' hi' d' k))) (onF ((absOk on n lo hi c d && absOk on' n' lo' hi' c' d') && (on || on')) ((jF on on' (arL on lo c) (arL on' lo' c') (fun k => joinLo (arL on lo c k) (arL on hi d k) (arL on' lo' c' k) (arL on' hi' d' k))) 4)) (onF ((absOk on n lo hi c d && absOk on' n' lo' hi' c' d') && (on || on')) ((jF on on' (arL on hi d) (arL on' hi' d') (fun k => joinHi (arL on lo c k) (arL on hi d k) (arL on' lo' c' k) (arL on' hi' d' k))) 4)) v w' ∧ Below w.heap.size w w' := by
  cases g : absOk on n lo hi c d
  · refine (absJoinI_0 _ _ _ _ _ _ _ _ _ _ _ _ _ _ _ _ _ _ _ _ _ hn hn' hC hD g).mono ?_
    rintro e w' ⟨rfl, hb⟩
    exact ⟨_, rfl, ⟨none, 0, 0, rfl, BndsIs.nil0 _ _ _ _⟩, hb⟩
  cases g' : absOk on' n' lo' hi' c' d'
  · refine (absJoinI_1 _ _ _ _ _ _ _ _ _ _ _ _ _ _ _ _ _ _ _ _ _ hn hn' hC hD g g').mono ?_
    rintro e w' ⟨rfl, hb⟩
    exact ⟨_, rfl, ⟨none, 0, 0, rfl, BndsIs.nil0 _ _ _ _⟩, hb⟩
  · simp only [Bool.and_self, Bool.true_and]
    exact absJoinI_t _ _ _ _ _ _ _ _ _ _ _ _ _ _ _ _ _ _ _ _ _ _ _ _ _ _ _ hn hn' hC hD g g' rfl rfl rfl rfl rfl rfl
end Go.Proofs.Ytiehokibfdaleaa
namespace Go.Proofs.Ytiehokibfdaleaa
open Go.ChangeShapes Go.WideShapes Go.ChangeAt Go.RowKit
set_option linter.unusedVariables false

def okT (s : St) : Bool := absOk s.on s.n s.lo s.hi s.c s.d
def inT (s t : St) : Bool := absIn s.on s.n s.lo s.hi s.c s.d t.on t.n t.lo t.hi t.c t.d
def OkP (a b : Int) : Prop := -32768 ≤ a ∧ a ≤ b ∧ b ≤ 32767
theorem itvOk_iff {a b : Int} : itvOk a b = true ↔ OkP a b := by
  simp [itvOk, okB, OkP]
  omega
theorem allOk_iff {lo hi : Nat → Int} : allOk lo hi 4 = true ↔ ∀ k, k < 4 → OkP (lo k) (hi k) := by
  simp only [allOk, Bool.and_eq_true, itvOk_iff, true_and]
  constructor
  · rintro ⟨⟨⟨h0, h1⟩, h2⟩, h3⟩ k hk
    rcases (show k = 0 ∨ k = 1 ∨ k = 2 ∨ k = 3 by omega) with rfl | rfl | rfl | rfl <;> assumption
  · exact fun h => ⟨⟨⟨h 0 (by omega), h 1 (by omega)⟩, h 2 (by omega)⟩, h 3 (by omega)⟩
theorem okT_on {s : St} (h : s.on = true) : okT s = true ↔ s.n = 4 ∧ OkP s.c s.d ∧ ∀ k, k < 4 → OkP (s.lo k) (s.hi k) := by
  unfold okT absOk
  rw [h]
  simp only [Bool.and_eq_true, decide_eq_true_eq, itvOk_iff]
  constructor
  · rintro ⟨h1, h2, h3⟩
    rw [h1] at h3
    exact ⟨h1, h2, allOk_iff.1 h3⟩
  · rintro ⟨h1, h2, h3⟩
    refine ⟨h1, h2, ?_⟩
    rw [h1]
    exact allOk_iff.2 h3
theorem okT_off {s : St} (h : s.on = false) : okT s = true ↔ s.n = 0 ∧ s.c = 0 ∧ s.d = 0 := by
  unfold okT absOk
  rw [h]
  simp
theorem inTo_iff {lo hi lo' hi' : Nat → Int} : inTo lo hi lo' hi' 4 = true ↔ ∀ k, k < 4 → itvIn (lo k) (hi k) (lo' k) (hi' k) = true := by
  simp only [inTo, Bool.and_eq_true, true_and]
  constructor
  · rintro ⟨⟨⟨h0, h1⟩, h2⟩, h3⟩ k hk
    rcases (show k = 0 ∨ k = 1 ∨ k = 2 ∨ k = 3 by omega) with rfl | rfl | rfl | rfl <;> assumption
  · exact fun h => ⟨⟨⟨h 0 (by omega), h 1 (by omega)⟩, h 2 (by omega)⟩, h 3 (by omega)⟩
/-- What is within what, of states that are ok. -/
theorem inT_iff {s t : St} (hs : okT s = true) (ht : okT t = true) : inT s t = true ↔ (s.on = true → t.on = true ∧ (t.c ≤ s.c ∧ s.d ≤ t.d) ∧ ∀ k, k < 4 → t.lo k ≤ s.lo k ∧ s.hi k ≤ t.hi k) := by
  unfold inT absIn
  rw [show absOk s.on s.n s.lo s.hi s.c s.d = true from hs, show absOk t.on t.n t.lo t.hi t.c t.d = true from ht]
  simp only [Bool.true_and]
  cases h1 : s.on with
  | false => simp
  | true =>
    cases h2 : t.on with
    | false => simp
    | true =>
      obtain ⟨a1, a2, a3⟩ := (okT_on h1).1 hs
      obtain ⟨b1, b2, b3⟩ := (okT_on h2).1 ht
      simp only [Bool.and_eq_true, inTo_iff, itvIn, decide_eq_true_eq, itvOk_iff, true_implies, true_and]
      constructor
      · rintro ⟨⟨⟨_, h3⟩, h4⟩, h5⟩
        exact ⟨⟨h3, h4⟩, fun k hk => ⟨(h5 k hk).1.2, (h5 k hk).2⟩⟩
      · rintro ⟨⟨h3, h4⟩, h5⟩
        exact ⟨⟨⟨⟨a2, b2⟩, h3⟩, h4⟩, fun k hk => ⟨⟨⟨a3 k hk, b3 k hk⟩, (h5 k hk).1⟩, (h5 k hk).2⟩⟩
/-- What one of two ways of joining bounds makes of two states. -/
def mixS (f g : Int → Int → Int → Int → Int) (s t : St) : St :=
  { on := (okT s && okT t) && (s.on || t.on)
    n := onN ((okT s && okT t) && (s.on || t.on))
    lo := jF s.on t.on (arL s.on s.lo s.c) (arL t.on t.lo t.c) (fun k => f (arL s.on s.lo s.c k) (arL s.on s.hi s.d k) (arL t.on t.lo t.c k) (arL t.on t.hi t.d k))
    hi := jF s.on t.on (arL s.on s.hi s.d) (arL t.on t.hi t.d) (fun k => g (arL s.on s.lo s.c k) (arL s.on s.hi s.d k) (arL t.on t.lo t.c k) (arL t.on t.hi t.d k))
    c := onF ((okT s && okT t) && (s.on || t.on)) (jF s.on t.on (arL s.on s.lo s.c) (arL t.on t.lo t.c) (fun k => f (arL s.on s.lo s.c k) (arL s.on s.hi s.d k) (arL t.on t.lo t.c k) (arL t.on t.hi t.d k)) 4)
    d := onF ((okT s && okT t) && (s.on || t.on)) (jF s.on t.on (arL s.on s.hi s.d) (arL t.on t.hi t.d) (fun k => g (arL s.on s.lo s.c k) (arL s.on s.hi s.d k) (arL t.on t.lo t.c k) (arL t.on t.hi t.d k)) 4) }
/-- Two states are the same in all that is seen of them. -/
def SameS (s t : St) : Prop := s.on = t.on ∧ s.n = t.n ∧ s.c = t.c ∧ s.d = t.d ∧ ∀ k, k < s.n → s.lo k = t.lo k ∧ s.hi k = t.hi k
theorem mixS_bad {f g : Int → Int → Int → Int → Int} {s t : St} (h : (okT s && okT t) = false) : (mixS f g s t).on = false := by
  simp [mixS, h]
theorem mixS_le {f g : Int → Int → Int → Int → Int} {s t : St} : (mixS f g s t).n ≤ 4 := by
  unfold mixS onN
  dsimp only
  split <;> omega
theorem mixS_off {f g : Int → Int → Int → Int → Int} {s t : St} (h1 : okT s = true) (h2 : okT t = true) (h3 : s.on = false) (h4 : t.on = false) : (mixS f g s t).on = false ∧ (mixS f g s t).n = 0 ∧ (mixS f g s t).c = 0 ∧ (mixS f g s t).d = 0 := by
  simp [mixS, h1, h2, h3, h4, onN, onF]
theorem mixS_r {f g : Int → Int → Int → Int → Int} {s t : St} (h1 : okT s = true) (h2 : okT t = true) (h3 : s.on = false) (h4 : t.on = true) : (mixS f g s t).on = true ∧ (mixS f g s t).n = 4 ∧ (mixS f g s t).c = t.c ∧ (mixS f g s t).d = t.d ∧ ∀ k, k < 4 → (mixS f g s t).lo k = t.lo k ∧ (mixS f g s t).hi k = t.hi k := by
  refine ⟨by simp [mixS, h1, h2, h3, h4], by simp [mixS, h1, h2, h3, h4, onN], by simp [mixS, h1, h2, h3, h4, onF, jF, arL], by simp [mixS, h1, h2, h3, h4, onF, jF, arL], fun k hk => ⟨?_, ?_⟩⟩ <;> simp [mixS, h3, h4, jF, arL, hk]
theorem mixS_l {f g : Int → Int → Int → Int → Int} {s t : St} (h1 : okT s = true) (h2 : okT t = true) (h3 : s.on = true) (h4 : t.on = false) : (mixS f g s t).on = true ∧ (mixS f g s t).n = 4 ∧ (mixS f g s t).c = s.c ∧ (mixS f g s t).d = s.d ∧ ∀ k, k < 4 → (mixS f g s t).lo k = s.lo k ∧ (mixS f g s t).hi k = s.hi k := by
  refine ⟨by simp [mixS, h1, h2, h3, h4], by simp [mixS, h1, h2, h3, h4, onN], by simp [mixS, h1, h2, h3, h4, onF, jF, arL], by simp [mixS, h1, h2, h3, h4, onF, jF, arL], fun k hk => ⟨?_, ?_⟩⟩ <;> simp [mixS, h3, h4, jF, arL, hk]
theorem mixS_b {f g : Int → Int → Int → Int → Int} {s t : St} (h1 : okT s = true) (h2 : okT t = true) (h3 : s.on = true) (h4 : t.on = true) : (mixS f g s t).on = true ∧ (mixS f g s t).n = 4 ∧ (mixS f g s t).c = f s.c s.d t.c t.d ∧ (mixS f g s t).d = g s.c s.d t.c t.d ∧ ∀ k, k < 4 → (mixS f g s t).lo k = f (s.lo k) (s.hi k) (t.lo k) (t.hi k) ∧ (mixS f g s t).hi k = g (s.lo k) (s.hi k) (t.lo k) (t.hi k) := by
  refine ⟨by simp [mixS, h1, h2, h3, h4], by simp [mixS, h1, h2, h3, h4, onN], by simp [mixS, h1, h2, h3, h4, onF, jF, arL], by simp [mixS, h1, h2, h3, h4, onF, jF, arL], fun k hk => ⟨?_, ?_⟩⟩ <;> simp [mixS, h3, h4, jF, arL, hk]
/-- A way of joining bounds that has both. -/
def Grows (f g : Int → Int → Int → Int → Int) : Prop := ∀ a b c d, OkP a b → OkP c d → OkP (f a b c d) (g a b c d) ∧ f a b c d ≤ a ∧ f a b c d ≤ c ∧ b ≤ g a b c d ∧ d ≤ g a b c d
theorem mixS_ok {f g : Int → Int → Int → Int → Int} (hG : Grows f g) {s t : St} (h1 : okT s = true) (h2 : okT t = true) : okT (mixS f g s t) = true := by
  cases h3 : s.on <;> cases h4 : t.on
  · obtain ⟨e1, e2, e3, e4⟩ := mixS_off (f := f) (g := g) h1 h2 h3 h4
    exact (okT_off e1).2 ⟨e2, e3, e4⟩
  · obtain ⟨e1, e2, e3, e4, e5⟩ := mixS_r (f := f) (g := g) h1 h2 h3 h4
    obtain ⟨q1, q2, q3⟩ := (okT_on h4).1 h2
    exact (okT_on e1).2 ⟨e2, by rw [e3, e4]; exact q2, fun k hk => by rw [(e5 k hk).1, (e5 k hk).2]; exact q3 k hk⟩
  · obtain ⟨e1, e2, e3, e4, e5⟩ := mixS_l (f := f) (g := g) h1 h2 h3 h4
    obtain ⟨q1, q2, q3⟩ := (okT_on h3).1 h1
    exact (okT_on e1).2 ⟨e2, by rw [e3, e4]; exact q2, fun k hk => by rw [(e5 k hk).1, (e5 k hk).2]; exact q3 k hk⟩
  · obtain ⟨e1, e2, e3, e4, e5⟩ := mixS_b (f := f) (g := g) h1 h2 h3 h4
    obtain ⟨p1, p2, p3⟩ := (okT_on h3).1 h1
    obtain ⟨q1, q2, q3⟩ := (okT_on h4).1 h2
    exact (okT_on e1).2 ⟨e2, by rw [e3, e4]; exact (hG _ _ _ _ p2 q2).1, fun k hk => by rw [(e5 k hk).1, (e5 k hk).2]; exact (hG _ _ _ _ (p3 k hk) (q3 k hk)).1⟩
theorem mixS_has {f g : Int → Int → Int → Int → Int} (hG : Grows f g) {s t : St} (h1 : okT s = true) (h2 : okT t = true) : inT s (mixS f g s t) = true ∧ inT t (mixS f g s t) = true := by
  have h0 := mixS_ok hG h1 h2
  rw [inT_iff h1 h0, inT_iff h2 h0]
  cases h3 : s.on <;> cases h4 : t.on
  · exact ⟨fun h => by simp at h, fun h => by simp at h⟩
  · obtain ⟨e1, e2, e3, e4, e5⟩ := mixS_r (f := f) (g := g) h1 h2 h3 h4
    exact ⟨fun h => by simp at h, fun _ => ⟨e1, ⟨by omega, by omega⟩, fun k hk => ⟨by rw [(e5 k hk).1]; omega, by rw [(e5 k hk).2]; omega⟩⟩⟩
  · obtain ⟨e1, e2, e3, e4, e5⟩ := mixS_l (f := f) (g := g) h1 h2 h3 h4
    exact ⟨fun _ => ⟨e1, ⟨by omega, by omega⟩, fun k hk => ⟨by rw [(e5 k hk).1]; omega, by rw [(e5 k hk).2]; omega⟩⟩, fun h => by simp at h⟩
  · obtain ⟨e1, e2, e3, e4, e5⟩ := mixS_b (f := f) (g := g) h1 h2 h3 h4
    obtain ⟨p1, p2, p3⟩ := (okT_on h3).1 h1
    obtain ⟨q1, q2, q3⟩ := (okT_on h4).1 h2
    have hc := hG _ _ _ _ p2 q2
    have hk := fun k (hk : k < 4) => hG _ _ _ _ (p3 k hk) (q3 k hk)
    exact ⟨fun _ => ⟨e1, ⟨by omega, by omega⟩, fun k h => ⟨by rw [(e5 k h).1]; exact (hk k h).2.1, by rw [(e5 k h).2]; exact (hk k h).2.2.2.1⟩⟩, fun _ => ⟨e1, ⟨by omega, by omega⟩, fun k h => ⟨by rw [(e5 k h).1]; exact (hk k h).2.2.1, by rw [(e5 k h).2]; exact (hk k h).2.2.2.2⟩⟩⟩
theorem joinLo_of {a b c d : Int} (h1 : OkP a b) (h2 : OkP c d) : joinLo a b c d = min a c ∧ joinHi a b c d = max b d := by
  simp [joinLo, joinHi, two, itvOk_iff.2 h1, itvOk_iff.2 h2]
theorem join_grows : Grows joinLo joinHi := by
  intro a b c d h1 h2
  obtain ⟨e1, e2⟩ := joinLo_of h1 h2
  rw [e1, e2]
  unfold OkP at *
  omega
/-- The join hangs on no order. -/
theorem join_comm {s t : St} (h1 : okT s = true) (h2 : okT t = true) : SameS (mixS joinLo joinHi t s) (mixS joinLo joinHi s t) := by
  cases h3 : s.on <;> cases h4 : t.on
  · obtain ⟨e1, e2, e3, e4⟩ := mixS_off (f := joinLo) (g := joinHi) h1 h2 h3 h4
    obtain ⟨q1, q2, q3, q4⟩ := mixS_off (f := joinLo) (g := joinHi) h2 h1 h4 h3
    exact ⟨q1.trans e1.symm, q2.trans e2.symm, q3.trans e3.symm, q4.trans e4.symm, fun k hk => by omega⟩
  · obtain ⟨e1, e2, e3, e4, e5⟩ := mixS_r (f := joinLo) (g := joinHi) h1 h2 h3 h4
    obtain ⟨q1, q2, q3, q4, q5⟩ := mixS_l (f := joinLo) (g := joinHi) h2 h1 h4 h3
    exact ⟨q1.trans e1.symm, q2.trans e2.symm, q3.trans e3.symm, q4.trans e4.symm, fun k hk => ⟨by rw [(e5 k (by omega)).1, (q5 k (by omega)).1], by rw [(e5 k (by omega)).2, (q5 k (by omega)).2]⟩⟩
  · obtain ⟨e1, e2, e3, e4, e5⟩ := mixS_l (f := joinLo) (g := joinHi) h1 h2 h3 h4
    obtain ⟨q1, q2, q3, q4, q5⟩ := mixS_r (f := joinLo) (g := joinHi) h2 h1 h4 h3
    exact ⟨q1.trans e1.symm, q2.trans e2.symm, q3.trans e3.symm, q4.trans e4.symm, fun k hk => ⟨by rw [(e5 k (by omega)).1, (q5 k (by omega)).1], by rw [(e5 k (by omega)).2, (q5 k (by omega)).2]⟩⟩
  · obtain ⟨e1, e2, e3, e4, e5⟩ := mixS_b (f := joinLo) (g := joinHi) h1 h2 h3 h4
    obtain ⟨q1, q2, q3, q4, q5⟩ := mixS_b (f := joinLo) (g := joinHi) h2 h1 h4 h3
    obtain ⟨p1, p2, p3⟩ := (okT_on h3).1 h1
    obtain ⟨r1, r2, r3⟩ := (okT_on h4).1 h2
    have c1 := joinLo_of p2 r2
    have c2 := joinLo_of r2 p2
    refine ⟨q1.trans e1.symm, q2.trans e2.symm, by rw [q3, e3, c1.1, c2.1]; omega, by rw [q4, e4, c1.2, c2.2]; omega, fun k hk => ?_⟩
    have k4 : k < 4 := by omega
    have d1 := joinLo_of (p3 k k4) (r3 k k4)
    have d2 := joinLo_of (r3 k k4) (p3 k k4)
    rw [(e5 k k4).1, (q5 k k4).1, (e5 k k4).2, (q5 k k4).2, d1.1, d1.2, d2.1, d2.2]
    omega
/-- Whatever has both has the join. -/
theorem join_least {s t u : St} (h1 : okT s = true) (h2 : okT t = true) (h0 : okT u = true) (hs : inT s u = true) (ht : inT t u = true) : inT (mixS joinLo joinHi s t) u = true := by
  rw [inT_iff (mixS_ok join_grows h1 h2) h0]
  rw [inT_iff h1 h0] at hs
  rw [inT_iff h2 h0] at ht
  intro hon
  cases h3 : s.on <;> cases h4 : t.on
  · obtain ⟨e1, e2, e3, e4⟩ := mixS_off (f := joinLo) (g := joinHi) h1 h2 h3 h4
    rw [e1] at hon
    cases hon
  · obtain ⟨e1, e2, e3, e4, e5⟩ := mixS_r (f := joinLo) (g := joinHi) h1 h2 h3 h4
    obtain ⟨t1, t2, t3⟩ := ht h4
    exact ⟨t1, by rw [e3, e4]; exact t2, fun k hk => by rw [(e5 k hk).1, (e5 k hk).2]; exact t3 k hk⟩
  · obtain ⟨e1, e2, e3, e4, e5⟩ := mixS_l (f := joinLo) (g := joinHi) h1 h2 h3 h4
    obtain ⟨t1, t2, t3⟩ := hs h3
    exact ⟨t1, by rw [e3, e4]; exact t2, fun k hk => by rw [(e5 k hk).1, (e5 k hk).2]; exact t3 k hk⟩
  · obtain ⟨e1, e2, e3, e4, e5⟩ := mixS_b (f := joinLo) (g := joinHi) h1 h2 h3 h4
    obtain ⟨t1, t2, t3⟩ := hs h3
    obtain ⟨u1, u2, u3⟩ := ht h4
    obtain ⟨p1, p2, p3⟩ := (okT_on h3).1 h1
    obtain ⟨r1, r2, r3⟩ := (okT_on h4).1 h2
    have c1 := joinLo_of p2 r2
    refine ⟨t1, by rw [e3, e4, c1.1, c1.2]; omega, fun k hk => ?_⟩
    have d1 := joinLo_of (p3 k hk) (r3 k hk)
    have := t3 k hk
    have := u3 k hk
    rw [(e5 k hk).1, (e5 k hk).2, d1.1, d1.2]
    omega
end Go.Proofs.Ytiehokibfdaleaa
namespace Go.Proofs.Ytiehokibfdaleaa
open Go.ChangeShapes Go.WideShapes Go.ChangeAt Go.RowKit
set_option linter.unusedVariables false

theorem joinI_is (onA : Bool) (aA : Option Addr) (gA nA cA : Nat) (lA hA : Nat → Int) (xA yA : Int) (onB : Bool) (aB : Option Addr) (gB nB cB : Nat) (lB hB : Nat → Int) (xB yB : Int) (onJ : Bool) (nJ : Nat) (lJ hJ : Nat → Int) (xJ yJ : Int) (w : World) (q1 : nA ≤ 1048576) (q2 : nB ≤ 1048576) (kA : BndsAt aA gA 0 nA lA hA w) (kB : BndsAt aB gB 0 nB lB hB w) (hS : SameS (mixS joinLo joinHi ⟨onA, nA, lA, hA, xA, yA⟩ ⟨onB, nB, lB, hB, xB, yB⟩) ⟨onJ, nJ, lJ, hJ, xJ, yJ⟩) :
    Calls Try.prog 7 #[.agg #[.bool onA, .slice aA nA cA, .int .i64 xA, .int .i64 yA], .agg #[.bool onB, .slice aB nB cB, .int .i64 xB, .int .i64 yB]] w fun e w' => ∃ (aJ : Option Addr) (gJ cJ : Nat), e = .returned (.agg #[.bool onJ, .slice aJ nJ cJ, .int .i64 xJ, .int .i64 yJ]) ∧ BndsAt aJ gJ 0 nJ lJ hJ w' ∧ Below w.heap.size w w' := by
  refine (absJoinI _ _ _ _ _ _ _ _ _ _ _ _ _ _ _ _ _ _ _ _ w q1 q2 kA kB).mono ?_
  rintro e w' ⟨v, rfl, ⟨a, g, cap, rfl, hI⟩, hb⟩
  obtain ⟨e1, e2, e3, e4, e5⟩ := hS
  have hK := hI.at_
  dsimp only [mixS] at e1 e2 e3 e4 e5
  dsimp only [okT] at e1 e2 e3 e4 e5
  rw [e3, e4, e2, e1]
  refine ⟨a, g, cap, rfl, ⟨fun h => hK.at_ (by rw [e2]; exact h), fun h => hK.lt (by rw [e2]; exact h), fun k hk => (hK.lo k (by rw [e2]; exact hk)).trans (by rw [(e5 k (by rw [e2]; exact hk)).1]), fun k hk => (hK.hi k (by rw [e2]; exact hk)).trans (by rw [(e5 k (by rw [e2]; exact hk)).2])⟩, hb⟩
theorem inI_is (onA : Bool) (aA : Option Addr) (gA nA cA : Nat) (lA hA : Nat → Int) (xA yA : Int) (onB : Bool) (aB : Option Addr) (gB nB cB : Nat) (lB hB : Nat → Int) (xB yB : Int) (q : Bool) (w : World) (q1 : nA ≤ 1048576) (q2 : nB ≤ 1048576) (kA : BndsAt aA gA 0 nA lA hA w) (kB : BndsAt aB gB 0 nB lB hB w) (hq : inT ⟨onA, nA, lA, hA, xA, yA⟩ ⟨onB, nB, lB, hB, xB, yB⟩ = q) :
    Calls Try.prog 12 #[.agg #[.bool onA, .slice aA nA cA, .int .i64 xA, .int .i64 yA], .agg #[.bool onB, .slice aB nB cB, .int .i64 xB, .int .i64 yB]] w fun e w' => e = .returned (.bool q) ∧ Below w.heap.size w w' := by
  subst hq
  exact absInI _ _ _ _ _ _ _ _ _ _ _ _ _ _ _ _ _ _ _ _ w q1 q2 kA kB
theorem okS_is (onA : Bool) (aA : Option Addr) (gA nA cA : Nat) (lA hA : Nat → Int) (xA yA : Int) (q : Bool) (w : World) (kA : BndsAt aA gA 0 nA lA hA w) (hq : okT ⟨onA, nA, lA, hA, xA, yA⟩ = q) :
    Calls Try.prog 10 #[.agg #[.bool onA, .slice aA nA cA, .int .i64 xA, .int .i64 yA]] w fun e w' => e = .returned (.bool q) ∧ Below w.heap.size w w' := by
  subst hq
  exact absOkS _ _ _ _ _ _ _ _ _ _ w kA
/-- A state that was answered. -/
def StJ (on : Bool) (n : Nat) (lo hi : Nat → Int) (c d : Int) (v : Value) (W : World) : Prop := ∃ (a : Option Addr) (g cap : Nat), v = .agg #[.bool on, .slice a n cap, .int .i64 c, .int .i64 d] ∧ BndsAt a g 0 n lo hi W
theorem StJ.next {on : Bool} {n i : Nat} {lo hi : Nat → Int} {c d : Int} {v : Value} {W W' : World} (h : StJ on n lo hi c d v W) (hb : TX i W W') : StJ on n lo hi c d v W' := by
  obtain ⟨a, g, cap, e, h1⟩ := h
  exact ⟨a, g, cap, e, h1.next hb⟩
end Go.Proofs.Ytiehokibfdaleaa
