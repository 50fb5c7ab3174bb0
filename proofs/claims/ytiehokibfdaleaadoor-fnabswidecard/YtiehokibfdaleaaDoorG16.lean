/- AbsJoin, the program's. · Where ends that grow come to rest: the program's (I). Condition: the table of steps holds what its initialiser lays. -/
import Derived.Test.YtiehokibfdaleaaDoorG15
import Derived.Test.YtiehokibfdaleaaDoorG9
import Derived.WalkKit
import Derived.ProofKit
import Derived.OpenShut
import Derived.Below
import Derived.Lib.LaidTab
namespace Go.Proofs.YtiehokibfdaleaaDoor
open Go.ChangeShapes Go.WideShapes Go.ChangeAt Go.RowKit
set_option linter.unusedVariables false

def onN (on : Bool) : Nat := match on with
  | false => 0
  | true => 4
def onF (on : Bool) (x : Int) : Int := match on with
  | false => 0
  | true => x
theorem arrivalX (on : Bool) (a : Option Addr) (b off n cap : Nat) (lo hi : Nat → Int) (c d : Int) (w : World) (hok : absOk on n lo hi c d = true) (hC : BndsAt a b off n lo hi w) :
    Calls Tryd.prog 14 #[.agg #[.bool on, .slice a n cap, .int .i64 c, .int .i64 d]] w fun e w' => e = .returned (.agg #[.bool on, .int .i64 ((arL on lo c) 0), .int .i64 ((arL on hi d) 0), .int .i64 ((arL on lo c) 1), .int .i64 ((arL on hi d) 1), .int .i64 ((arL on lo c) 2), .int .i64 ((arL on hi d) 2), .int .i64 ((arL on lo c) 3), .int .i64 ((arL on hi d) 3), .int .i64 ((arL on lo c) 4), .int .i64 ((arL on hi d) 4)]) ∧ Below w.heap.size w w' := by
  cases on
  · obtain ⟨rfl, rfl, rfl⟩ : n = 0 ∧ c = 0 ∧ d = 0 := by simp [absOk] at hok; exact hok
    exact arrivalF a cap w
  · obtain rfl : n = 4 := by simp [absOk] at hok; exact hok.1
    exact arrivalT a b off cap lo hi c d w hC
theorem stateX (on : Bool) (l h : Nat → Int) (w : World) :
    Calls Tryd.prog 17 #[.agg #[.bool on, .int .i64 (l 0), .int .i64 (h 0), .int .i64 (l 1), .int .i64 (h 1), .int .i64 (l 2), .int .i64 (h 2), .int .i64 (l 3), .int .i64 (h 3), .int .i64 (l 4), .int .i64 (h 4)]] w fun e w' => ∃ v, e = .returned v ∧ StIs w.heap.size on (onN on) l h (onF on (l 4)) (onF on (h 4)) v w' ∧ Below w.heap.size w w' := by
  cases on
  · refine (stateF l h w).mono ?_
    rintro e w' ⟨rfl, hb⟩
    exact ⟨_, rfl, ⟨none, 0, 0, rfl, BndsIs.nil0 _ _ _ _⟩, hb⟩
  · refine (stateT l h w).mono ?_
    rintro e w' ⟨g, c, rfl, hB, hb⟩
    exact ⟨_, rfl, ⟨some ⟨g, 0, none⟩, g, c, rfl, hB⟩, hb⟩
def JnS (w : World) (R N : Nat) (Lr : List (Nat × List Value)) (on : Bool) (n : Nat) (lo hi : Nat → Int) (c d : Int) (L : Nat → Bool) (W : World) : Prop :=
  (L 7 = false → HeldL w ((R, [Value.bool false, .slice none 0 0, .int .i64 0, .int .i64 0]) :: Lr) W) ∧ (L 7 = true → ∃ (ga : Option Addr) (g gc : Nat), HeldL w ((R, [Value.bool on, .slice ga n gc, .int .i64 c, .int .i64 d]) :: Lr) W ∧ BndsIs N n lo hi ga g W)
theorem JnS.next {w : World} {R N : Nat} {Lr : List (Nat × List Value)} {on : Bool} {n : Nat} {lo hi : Nat → Int} {c d : Int} {L : Nat → Bool} {W W' : World} (h : JnS w R N Lr on n lo hi c d L W) (hb : Below W.heap.size W W') : JnS w R N Lr on n lo hi c d L W' :=
  ⟨fun e => (h.1 e).next hb, fun e => by obtain ⟨ga, g, gc, h1, h2⟩ := h.2 e; exact ⟨ga, g, gc, h1.next hb, h2.next hb⟩⟩
theorem JnS.keep {w : World} {R N : Nat} {Lr : List (Nat × List Value)} {on : Bool} {n : Nat} {lo hi : Nat → Int} {c d : Int} {L : Nat → Bool} {W : World} (h : JnS w R N Lr on n lo hi c d L W) {i : Nat} (hi' : 7 ≠ i) : JnS w R N Lr on n lo hi c d (upd L i true) W := by
  unfold JnS; rw [upd_other _ _ hi']; exact h
theorem JnS.sub {w : World} {R N : Nat} {Lr : List (Nat × List Value)} {on : Bool} {n : Nat} {lo hi : Nat → Int} {c d : Int} {L : Nat → Bool} {W : World} (h : JnS w R N Lr on n lo hi c d L W) : HeldL w Lr W := by
  cases e : L 7
  · exact (h.1 e).sub (fun x hx => List.mem_cons_of_mem _ hx)
  · obtain ⟨ga, g, gc, h1, _⟩ := h.2 e
    exact h1.sub (fun x hx => List.mem_cons_of_mem _ hx)
theorem JnS.cell {w : World} {R N : Nat} {Lr : List (Nat × List Value)} {on : Bool} {n : Nat} {lo hi : Nat → Int} {c d : Int} {L : Nat → Bool} {W : World} (h : JnS w R N Lr on n lo hi c d L W) {e : Nat × List Value} (he : e ∈ Lr) {i : Nat} {v : Value} (hv : e.2[i]? = some v) : W.cell? ⟨e.1, i, none⟩ = some v := h.sub.cell he hv
theorem JnS.big {w : World} {R N : Nat} {Lr : List (Nat × List Value)} {on : Bool} {n : Nat} {lo hi : Nat → Int} {c d : Int} {L : Nat → Bool} {W : World} (h : JnS w R N Lr on n lo hi c d L W) : R < W.heap.size := by
  cases e : L 7
  · exact (h.1 e).size List.mem_cons_self
  · obtain ⟨ga, g, gc, h1, _⟩ := h.2 e
    exact h1.size List.mem_cons_self
theorem StIs.base {B C : Nat} {on : Bool} {n : Nat} {lo hi : Nat → Int} {c d : Int} {v : Value} {W : World} (h : StIs B on n lo hi c d v W) (hC : C ≤ B) : StIs C on n lo hi c d v W := by
  obtain ⟨a, g, cap, e, h1⟩ := h
  exact ⟨a, g, cap, e, h1.base hC⟩
/-- A list of two arrivals that the region makes. -/
def SlV (N : Nat) (vs : List Value) (v : Value) (W : World) : Prop := ∃ g : Nat, v = .slice (some ⟨g, 0, none⟩) 2 2 ∧ N ≤ g ∧ g < W.heap.size ∧ ∀ j u, vs[j]? = some u → W.cell? ⟨g, j, none⟩ = some u
theorem SlV.trn {N R i : Nat} {vs : List Value} {v : Value} {W W' : World} (h : SlV N vs v W) (hR : R < N) (t : Trn R i W W') : SlV N vs v W' := by
  obtain ⟨g, e, h1, h2, h3⟩ := h
  exact ⟨g, e, h1, Nat.lt_of_lt_of_le h2 t.1, fun j u hu => (t.2 ⟨g, j, none⟩ h2 (by dsimp only; omega)).1.trans (h3 j u hu)⟩
theorem StIs.trn {N R i : Nat} {on : Bool} {n : Nat} {lo hi : Nat → Int} {c d : Int} {v : Value} {W W' : World} (h : StIs N on n lo hi c d v W) (hR : R < N) (t : Trn R i W W') : StIs N on n lo hi c d v W' := by
  obtain ⟨a, g, cap, e, h1⟩ := h
  exact ⟨a, g, cap, e, h1.trn hR t⟩
set_option maxRecDepth 10000 in
set_option maxHeartbeats 16000000 in
theorem absJoinI_t (on : Bool) (a : Option Addr) (b off n cap : Nat) (lo hi : Nat → Int) (c d : Int) (on' : Bool) (a' : Option Addr) (b' off' n' cap' : Nat) (lo' hi' : Nat → Int) (c' d' : Int) (w : World) (l h l' h' F G : Nat → Int) (hn : n ≤ 1048576) (hn' : n' ≤ 1048576) (hC : BndsAt a b off n lo hi w) (hD : BndsAt a' b' off' n' lo' hi' w)
    (g : absOk on n lo hi c d = true) (g' : absOk on' n' lo' hi' c' d' = true) (hl : arL on lo c = l) (hh : arL on hi d = h) (hl' : arL on' lo' c' = l') (hh' : arL on' hi' d' = h') (hF : (fun k => joinLo (l k) (h k) (l' k) (h' k)) = F) (hG : (fun k => joinHi (l k) (h k) (l' k) (h' k)) = G) :
    Calls Tryd.prog 11 #[.agg #[.bool on, .slice a n cap, .int .i64 c, .int .i64 d], .agg #[.bool on', .slice a' n' cap', .int .i64 c', .int .i64 d']] w fun e w' => ∃ v, e = .returned v ∧ StIs w.heap.size (on || on') (onN (on || on')) (jF on on' l l' F) (jF on on' h h' G) (onF (on || on') (jF on on' l l' F 4)) (onF (on || on') (jF on on' h h' G 4)) v w' ∧ Below w.heap.size w w' := by
  have H : HeldL w ((w.heap.size + 1 + 1, [Value.bool false, .slice none 0 0, .int .i64 0, .int .i64 0]) :: [(w.heap.size + 1, [Value.bool on', .slice a' n' cap', .int .i64 c', .int .i64 d']), (w.heap.size, [Value.bool on, .slice a n cap, .int .i64 c, .int .i64 d])]) (((w.alloc (.cells #[.bool on, .slice a n cap, .int .i64 c, .int .i64 d] 27)).alloc (.cells #[.bool on', .slice a' n' cap', .int .i64 c', .int .i64 d'] 27)).alloc (.cells #[.bool false, .slice none 0 0, .int .i64 0, .int .i64 0] 27)) := by
    have e1 : w.heap.size + 1 = (w.alloc (.cells #[.bool on, .slice a n cap, .int .i64 c, .int .i64 d] 27)).heap.size := by simp
    have e2 : w.heap.size + 1 + 1 = ((w.alloc (.cells #[.bool on, .slice a n cap, .int .i64 c, .int .i64 d] 27)).alloc (.cells #[.bool on', .slice a' n' cap', .int .i64 c', .int .i64 d'] 27)).heap.size := by simp
    rw [e2, e1]
    exact HeldL.newL (vs := [Value.bool false, .slice none 0 0, .int .i64 0, .int .i64 0]) (HeldL.newL (vs := [Value.bool on', .slice a' n' cap', .int .i64 c', .int .i64 d']) (HeldL.newL (vs := [Value.bool on, .slice a n cap, .int .i64 c, .int .i64 d]) (HeldL.nil w)))
  obtain ⟨Lr, hLr⟩ : ∃ L, L = [(w.heap.size + 1, [Value.bool on', .slice a' n' cap', .int .i64 c', .int .i64 d']), (w.heap.size, [Value.bool on, .slice a n cap, .int .i64 c, .int .i64 d])] := ⟨_, rfl⟩
  have ne0 : ∀ e ∈ Lr, e.1 ≠ w.heap.size + 1 + 1 := by rw [hLr]; intro e he; simp at he; rcases he with rfl | rfl <;> dsimp only <;> omega
  have mA : (w.heap.size, [Value.bool on, .slice a n cap, .int .i64 c, .int .i64 d]) ∈ Lr := by rw [hLr]; simp
  have mB : (w.heap.size + 1, [Value.bool on', .slice a' n' cap', .int .i64 c', .int .i64 d']) ∈ Lr := by rw [hLr]; simp
  rw [← hLr] at H
  clear hLr
  have I := hC.next H.below
  have J := hD.next H.below
  go_enter Tryd.func11, Tryd.ntmps11
  go_wp2_with fail
  refine (absOkI _ _ _ _ _ _ _ _ _ _ _ hn I).mono ?_
  rintro e w1 ⟨rfl, hb⟩
  rw [g]
  replace H := H.next hb
  replace I := I.next hb
  replace J := J.next hb
  clear hb
  have x0 := H.cell (List.mem_cons_of_mem _ mB) (i := 0) rfl
  have x1 := H.cell (List.mem_cons_of_mem _ mB) (i := 1) rfl
  have x2 := H.cell (List.mem_cons_of_mem _ mB) (i := 2) rfl
  have x3 := H.cell (List.mem_cons_of_mem _ mB) (i := 3) rfl
  dsimp only at x0 x1 x2 x3
  go_wp2_with fail
  refine (absOkI _ _ _ _ _ _ _ _ _ _ _ hn' J).mono ?_
  rintro e w2 ⟨rfl, hb⟩
  rw [g']
  replace H := H.next hb
  replace I := I.next hb
  replace J := J.next hb
  clear hb x0 x1 x2 x3
  have hz : w.heap.size + 1 + 1 + 1 ≤ w2.heap.size := H.size List.mem_cons_self
  have hS0 : JnS w (w.heap.size + 1 + 1) (w.heap.size + 1 + 1 + 1) Lr (on || on') (onN (on || on')) (jF on on' l l' F) (jF on on' h h' G) (onF (on || on') (jF on on' l l' F 4)) (onF (on || on') (jF on on' h h' G 4)) (fun _ => false) w2.drew := ⟨fun _ => H.drew, (fun e => by cases e)⟩
  clear H I J hz
  go_wp2_with fail
  refine region_inv3 [(0, 14), (1, 15), (2, 16), (3, 17), (4, 18), (5, 19), (6, 20)]
    (fun j v W => match j with
      | 0 => Is (.agg #[.bool on, .slice a n cap, .int .i64 c, .int .i64 d]) v
      | 1 => Is (.agg #[.bool on, .int .i64 (l 0), .int .i64 (h 0), .int .i64 (l 1), .int .i64 (h 1), .int .i64 (l 2), .int .i64 (h 2), .int .i64 (l 3), .int .i64 (h 3), .int .i64 (l 4), .int .i64 (h 4)]) v
      | 2 => Is (.agg #[.bool on', .slice a' n' cap', .int .i64 c', .int .i64 d']) v
      | 3 => Is (.agg #[.bool on', .int .i64 (l' 0), .int .i64 (h' 0), .int .i64 (l' 1), .int .i64 (h' 1), .int .i64 (l' 2), .int .i64 (h' 2), .int .i64 (l' 3), .int .i64 (h' 3), .int .i64 (l' 4), .int .i64 (h' 4)]) v
      | 4 => SlV (w.heap.size + 1 + 1 + 1) [Value.bool on, .int .i64 (l 0), .int .i64 (h 0), .int .i64 (l 1), .int .i64 (h 1), .int .i64 (l 2), .int .i64 (h 2), .int .i64 (l 3), .int .i64 (h 3), .int .i64 (l 4), .int .i64 (h 4), .bool on', .int .i64 (l' 0), .int .i64 (h' 0), .int .i64 (l' 1), .int .i64 (h' 1), .int .i64 (l' 2), .int .i64 (h' 2), .int .i64 (l' 3), .int .i64 (h' 3), .int .i64 (l' 4), .int .i64 (h' 4)] v W
      | 5 => Is (.agg #[.bool (on || on'), .int .i64 (jF on on' l l' F 0), .int .i64 (jF on on' h h' G 0), .int .i64 (jF on on' l l' F 1), .int .i64 (jF on on' h h' G 1), .int .i64 (jF on on' l l' F 2), .int .i64 (jF on on' h h' G 2), .int .i64 (jF on on' l l' F 3), .int .i64 (jF on on' h h' G 3), .int .i64 (jF on on' l l' F 4), .int .i64 (jF on on' h h' G 4)]) v
      | 6 => StIs (w.heap.size + 1 + 1 + 1) (on || on') (onN (on || on')) (jF on on' l l' F) (jF on on' h h' G) (onF (on || on') (jF on on' l l' F 4)) (onF (on || on') (jF on on' h h' G 4)) v W
      | _ => True)
    (fun L W => JnS w (w.heap.size + 1 + 1) (w.heap.size + 1 + 1 + 1) Lr (on || on') (onN (on || on')) (jF on on' l l' F) (jF on on' h h' G) (onF (on || on') (jF on on' l l' F 4)) (onF (on || on') (jF on on' h h' G 4)) L W) (Trn (w.heap.size + 1 + 1))
    (by kernel_rfl) (by kernel_rfl) (by kernel_rfl) (by kernel_rfl) (by kernel_rfl) rfl hS0 ?_ ?_ ?_
  · intro i j v W W' hji hφ hT
    match j, hji, hφ with
    | 0, _, hφ => exact hφ
    | 1, _, hφ => exact hφ
    | 2, _, hφ => exact hφ
    | 3, _, hφ => exact hφ
    | 4, _, hφ => exact SlV.trn hφ (by omega) hT
    | 5, _, hφ => exact hφ
    | 6, _, hφ => exact StIs.trn hφ (by omega) hT
    | _ + 7, _, _ => trivial
  · intro i L vals W hi' hφ hS hL hd
    have hi2 : i < 8 := hi'
    have hbig : w.heap.size + 1 + 1 < W.heap.size := hS.big
    clear hi' hS0
    rcases (show i = 0 ∨ i = 1 ∨ i = 2 ∨ i = 3 ∨ i = 4 ∨ i = 5 ∨ i = 6 ∨ i = 7 by omega) with rfl | rfl | rfl | rfl | rfl | rfl | rfl | rfl
    · have x0 := hS.cell mA (i := 0) rfl
      have x1 := hS.cell mA (i := 1) rfl
      have x2 := hS.cell mA (i := 2) rfl
      have x3 := hS.cell mA (i := 3) rfl
      dsimp only at x0 x1 x2 x3
      refine wpAt_of rfl rfl ?_
      simp only [frOf, Act.put]
      go_wp2_with fail
      first | exact ⟨trivial, rfl, Trn.refl, hS.keep (by decide)⟩ | exact ⟨rfl, Trn.refl, hS.keep (by decide)⟩
    · have k0 : vals 0 = .agg #[.bool on, .slice a n cap, .int .i64 c, .int .i64 d] := hφ 0 (hd 0 (by decide))
      refine wpAt_of rfl rfl ?_
      simp only [frOf, Act.put]
      go_wp2_with fail
      refine (arrivalX _ _ _ _ _ _ _ _ _ _ _ g (hC.next hS.sub.below)).mono ?_
      rintro e W' ⟨rfl, hb⟩
      rw [hl, hh]
      go_wp2_with fail
      first | exact ⟨trivial, rfl, Trn.ofBelow hb, (hS.next hb).keep (by decide)⟩ | exact ⟨rfl, Trn.ofBelow hb, (hS.next hb).keep (by decide)⟩
    · have x0 := hS.cell mB (i := 0) rfl
      have x1 := hS.cell mB (i := 1) rfl
      have x2 := hS.cell mB (i := 2) rfl
      have x3 := hS.cell mB (i := 3) rfl
      dsimp only at x0 x1 x2 x3
      refine wpAt_of rfl rfl ?_
      simp only [frOf, Act.put]
      go_wp2_with fail
      first | exact ⟨trivial, rfl, Trn.refl, hS.keep (by decide)⟩ | exact ⟨rfl, Trn.refl, hS.keep (by decide)⟩
    · have k2 : vals 2 = .agg #[.bool on', .slice a' n' cap', .int .i64 c', .int .i64 d'] := hφ 2 (hd 2 (by decide))
      refine wpAt_of rfl rfl ?_
      simp only [frOf, Act.put]
      go_wp2_with fail
      refine (arrivalX _ _ _ _ _ _ _ _ _ _ _ g' (hD.next hS.sub.below)).mono ?_
      rintro e W' ⟨rfl, hb⟩
      rw [hl', hh']
      go_wp2_with fail
      first | exact ⟨trivial, rfl, Trn.ofBelow hb, (hS.next hb).keep (by decide)⟩ | exact ⟨rfl, Trn.ofBelow hb, (hS.next hb).keep (by decide)⟩
    · have k1 : vals 1 = .agg #[.bool on, .int .i64 (l 0), .int .i64 (h 0), .int .i64 (l 1), .int .i64 (h 1), .int .i64 (l 2), .int .i64 (h 2), .int .i64 (l 3), .int .i64 (h 3), .int .i64 (l 4), .int .i64 (h 4)] := hφ 1 (hd 1 (by decide))
      have k3 : vals 3 = .agg #[.bool on', .int .i64 (l' 0), .int .i64 (h' 0), .int .i64 (l' 1), .int .i64 (h' 1), .int .i64 (l' 2), .int .i64 (h' 2), .int .i64 (l' 3), .int .i64 (h' 3), .int .i64 (l' 4), .int .i64 (h' 4)] := hφ 3 (hd 3 (by decide))
      have hb : Below W.heap.size W (W.alloc (.cells #[.bool on, .int .i64 (l 0), .int .i64 (h 0), .int .i64 (l 1), .int .i64 (h 1), .int .i64 (l 2), .int .i64 (h 2), .int .i64 (l 3), .int .i64 (h 3), .int .i64 (l 4), .int .i64 (h 4), .bool on', .int .i64 (l' 0), .int .i64 (h' 0), .int .i64 (l' 1), .int .i64 (h' 1), .int .i64 (l' 2), .int .i64 (h' 2), .int .i64 (l' 3), .int .i64 (h' 3), .int .i64 (l' 4), .int .i64 (h' 4)] 37)) := (Below.refl _ _).alloc (Nat.le_refl _) _
      have hSl : SlV (w.heap.size + 1 + 1 + 1) [Value.bool on, .int .i64 (l 0), .int .i64 (h 0), .int .i64 (l 1), .int .i64 (h 1), .int .i64 (l 2), .int .i64 (h 2), .int .i64 (l 3), .int .i64 (h 3), .int .i64 (l 4), .int .i64 (h 4), .bool on', .int .i64 (l' 0), .int .i64 (h' 0), .int .i64 (l' 1), .int .i64 (h' 1), .int .i64 (l' 2), .int .i64 (h' 2), .int .i64 (l' 3), .int .i64 (h' 3), .int .i64 (l' 4), .int .i64 (h' 4)] (.slice (some ⟨W.heap.size, 0, none⟩) 2 2) (W.alloc (.cells #[.bool on, .int .i64 (l 0), .int .i64 (h 0), .int .i64 (l 1), .int .i64 (h 1), .int .i64 (l 2), .int .i64 (h 2), .int .i64 (l 3), .int .i64 (h 3), .int .i64 (l 4), .int .i64 (h 4), .bool on', .int .i64 (l' 0), .int .i64 (h' 0), .int .i64 (l' 1), .int .i64 (h' 1), .int .i64 (l' 2), .int .i64 (h' 2), .int .i64 (l' 3), .int .i64 (h' 3), .int .i64 (l' 4), .int .i64 (h' 4)] 37)) := ⟨W.heap.size, rfl, hbig, by simp, fun j u hu => by unfold World.cell?; rw [heap_alloc_new]; simpa using hu⟩
      refine wpAt_of rfl rfl ?_
      simp only [frOf, Act.put]
      go_wp2_with fail
      first | exact ⟨trivial, hSl, Trn.ofBelow hb, (hS.next hb).keep (by decide)⟩ | exact ⟨hSl, Trn.ofBelow hb, (hS.next hb).keep (by decide)⟩
    · obtain ⟨q, k4, _, hq, hcs⟩ : SlV (w.heap.size + 1 + 1 + 1) [Value.bool on, .int .i64 (l 0), .int .i64 (h 0), .int .i64 (l 1), .int .i64 (h 1), .int .i64 (l 2), .int .i64 (h 2), .int .i64 (l 3), .int .i64 (h 3), .int .i64 (l 4), .int .i64 (h 4), .bool on', .int .i64 (l' 0), .int .i64 (h' 0), .int .i64 (l' 1), .int .i64 (h' 1), .int .i64 (l' 2), .int .i64 (h' 2), .int .i64 (l' 3), .int .i64 (h' 3), .int .i64 (l' 4), .int .i64 (h' 4)] (vals 4) W := hφ 4 (hd 4 (by decide))
      refine wpAt_of rfl rfl ?_
      simp only [frOf, Act.put]
      go_wp2_with fail
      refine (joined2 q 2 on on' l h l' h' F G hF hG _ hcs hq).mono ?_
      rintro e W' ⟨rfl, hb⟩
      go_wp2_with fail
      first | exact ⟨trivial, rfl, Trn.ofBelow hb, (hS.next hb).keep (by decide)⟩ | exact ⟨rfl, Trn.ofBelow hb, (hS.next hb).keep (by decide)⟩
    · have k5 : vals 5 = .agg #[.bool (on || on'), .int .i64 (jF on on' l l' F 0), .int .i64 (jF on on' h h' G 0), .int .i64 (jF on on' l l' F 1), .int .i64 (jF on on' h h' G 1), .int .i64 (jF on on' l l' F 2), .int .i64 (jF on on' h h' G 2), .int .i64 (jF on on' l l' F 3), .int .i64 (jF on on' h h' G 3), .int .i64 (jF on on' l l' F 4), .int .i64 (jF on on' h h' G 4)] := hφ 5 (hd 5 (by decide))
      refine wpAt_of rfl rfl ?_
      simp only [frOf, Act.put]
      go_wp2_with fail
      refine (stateX (on || on') (jF on on' l l' F) (jF on on' h h' G) _).mono ?_
      rintro e W' ⟨v, rfl, hv, hb⟩
      replace hv := hv.base (C := w.heap.size + 1 + 1 + 1) hbig
      go_wp2_with fail
      first | exact ⟨trivial, hv, Trn.ofBelow hb, (hS.next hb).keep (by decide)⟩ | exact ⟨hv, Trn.ofBelow hb, (hS.next hb).keep (by decide)⟩
    · obtain ⟨ga, gg, gc, k6, hB⟩ : StIs (w.heap.size + 1 + 1 + 1) (on || on') (onN (on || on')) (jF on on' l l' F) (jF on on' h h' G) (onF (on || on') (jF on on' l l' F 4)) (onF (on || on') (jF on on' h h' G 4)) (vals 6) W := hφ 6 (hd 6 (by decide))
      have hH := hS.1 hL
      have r0 := hH.cell List.mem_cons_self (i := 0) rfl
      have r1 := hH.cell List.mem_cons_self (i := 1) rfl
      have r2 := hH.cell List.mem_cons_self (i := 2) rfl
      have r3 := hH.cell List.mem_cons_self (i := 3) rfl
      have fr := hH.free _ List.mem_cons_self
      dsimp only at r0 r1 r2 r3 fr
      have hH' := HeldL.putCells (by omega) ne0 [.bool (on || on'), .slice ga (onN (on || on')) gc, .int .i64 (onF (on || on') (jF on on' l l' F 4)), .int .i64 (onF (on || on') (jF on on' h h' G 4))] 0 [Value.bool false, .slice none 0 0, .int .i64 0, .int .i64 0] W hH (by simp)
      simp only [putL, List.set_cons_succ, List.set_cons_zero] at hH'
      have hT : Trn (w.heap.size + 1 + 1) 7 W (setAll (w.heap.size + 1 + 1) 0 [.bool (on || on'), .slice ga (onN (on || on')) gc, .int .i64 (onF (on || on') (jF on on' l l' F 4)), .int .i64 (onF (on || on') (jF on on' h h' G 4))] W) := Trn.setAll
      have hB' := hB.trn (by omega) hT
      refine wpAt_none rfl rfl ?_
      simp only [frOf, Act.put]
      go_wp2_with fail
      have fin : JnS w (w.heap.size + 1 + 1) (w.heap.size + 1 + 1 + 1) Lr (on || on') (onN (on || on')) (jF on on' l l' F) (jF on on' h h' G) (onF (on || on') (jF on on' l l' F 4)) (onF (on || on') (jF on on' h h' G 4)) (upd L 7 true) (setAll (w.heap.size + 1 + 1) 0 [.bool (on || on'), .slice ga (onN (on || on')) gc, .int .i64 (onF (on || on') (jF on on' l l' F 4)), .int .i64 (onF (on || on') (jF on on' h h' G 4))] W) := ⟨(fun e => by rw [upd_same] at e; cases e), fun _ => ⟨ga, gg, gc, hH', hB'⟩⟩
      first | exact ⟨trivial, trivial, hT, fin⟩ | exact ⟨trivial, hT, fin⟩ | exact ⟨hT, fin⟩
  · intro L vals W hall hφ hS
    have k0 : vals 0 = .agg #[.bool on, .slice a n cap, .int .i64 c, .int .i64 d] := hφ 0 (by decide)
    have k1 : vals 1 = .agg #[.bool on, .int .i64 (l 0), .int .i64 (h 0), .int .i64 (l 1), .int .i64 (h 1), .int .i64 (l 2), .int .i64 (h 2), .int .i64 (l 3), .int .i64 (h 3), .int .i64 (l 4), .int .i64 (h 4)] := hφ 1 (by decide)
    have k2 : vals 2 = .agg #[.bool on', .slice a' n' cap', .int .i64 c', .int .i64 d'] := hφ 2 (by decide)
    have k3 : vals 3 = .agg #[.bool on', .int .i64 (l' 0), .int .i64 (h' 0), .int .i64 (l' 1), .int .i64 (h' 1), .int .i64 (l' 2), .int .i64 (h' 2), .int .i64 (l' 3), .int .i64 (h' 3), .int .i64 (l' 4), .int .i64 (h' 4)] := hφ 3 (by decide)
    have k5 : vals 5 = .agg #[.bool (on || on'), .int .i64 (jF on on' l l' F 0), .int .i64 (jF on on' h h' G 0), .int .i64 (jF on on' l l' F 1), .int .i64 (jF on on' h h' G 1), .int .i64 (jF on on' l l' F 2), .int .i64 (jF on on' h h' G 2), .int .i64 (jF on on' l l' F 3), .int .i64 (jF on on' h h' G 3), .int .i64 (jF on on' l l' F 4), .int .i64 (jF on on' h h' G 4)] := hφ 5 (by decide)
    obtain ⟨ga, gg, gc, hH, hB⟩ := hS.2 (hall 7 (by decide))
    simp only [frOf, Act.put, List.setIfInBounds_toArray, List.set_cons_succ, List.set_cons_zero, k0, k1, k2, k3, k5]
    clear k0 k1 k2 k3 k5 hall hφ hS0 hS
    have r0 := hH.cell List.mem_cons_self (i := 0) rfl
    have r1 := hH.cell List.mem_cons_self (i := 1) rfl
    have r2 := hH.cell List.mem_cons_self (i := 2) rfl
    have r3 := hH.cell List.mem_cons_self (i := 3) rfl
    dsimp only at r0 r1 r2 r3
    go_wp2_with fail
    refine bodyPost_ret (v := .agg #[.bool (on || on'), .slice ga (onN (on || on')) gc, .int .i64 (onF (on || on') (jF on on' l l' F 4)), .int .i64 (onF (on || on') (jF on on' h h' G 4))]) (by simp [results, Tryd.results11, go_sem, r0, r1, r2, r3]) rfl ⟨_, rfl, ⟨ga, gg, gc, rfl, hB.base (by omega)⟩, hH.below⟩
set_option maxRecDepth 10000 in
set_option maxHeartbeats 8000000 in
theorem absJoinI_0 (on : Bool) (a : Option Addr) (b off n cap : Nat) (lo hi : Nat → Int) (c d : Int) (on' : Bool) (a' : Option Addr) (b' off' n' cap' : Nat) (lo' hi' : Nat → Int) (c' d' : Int) (w : World) (hn : n ≤ 1048576) (hn' : n' ≤ 1048576) (hC : BndsAt a b off n lo hi w) (hD : BndsAt a' b' off' n' lo' hi' w) (g : absOk on n lo hi c d = false) :
    Calls Tryd.prog 11 #[.agg #[.bool on, .slice a n cap, .int .i64 c, .int .i64 d], .agg #[.bool on', .slice a' n' cap', .int .i64 c', .int .i64 d']] w fun e w' => e = .returned (.agg #[.bool false, .slice none 0 0, .int .i64 0, .int .i64 0]) ∧ Below w.heap.size w w' := by
  have H : HeldL w ((w.heap.size + 1 + 1, [Value.bool false, .slice none 0 0, .int .i64 0, .int .i64 0]) :: [(w.heap.size + 1, [Value.bool on', .slice a' n' cap', .int .i64 c', .int .i64 d']), (w.heap.size, [Value.bool on, .slice a n cap, .int .i64 c, .int .i64 d])]) (((w.alloc (.cells #[.bool on, .slice a n cap, .int .i64 c, .int .i64 d] 27)).alloc (.cells #[.bool on', .slice a' n' cap', .int .i64 c', .int .i64 d'] 27)).alloc (.cells #[.bool false, .slice none 0 0, .int .i64 0, .int .i64 0] 27)) := by
    have e1 : w.heap.size + 1 = (w.alloc (.cells #[.bool on, .slice a n cap, .int .i64 c, .int .i64 d] 27)).heap.size := by simp
    have e2 : w.heap.size + 1 + 1 = ((w.alloc (.cells #[.bool on, .slice a n cap, .int .i64 c, .int .i64 d] 27)).alloc (.cells #[.bool on', .slice a' n' cap', .int .i64 c', .int .i64 d'] 27)).heap.size := by simp
    rw [e2, e1]
    exact HeldL.newL (vs := [Value.bool false, .slice none 0 0, .int .i64 0, .int .i64 0]) (HeldL.newL (vs := [Value.bool on', .slice a' n' cap', .int .i64 c', .int .i64 d']) (HeldL.newL (vs := [Value.bool on, .slice a n cap, .int .i64 c, .int .i64 d]) (HeldL.nil w)))
  have I := hC.next H.below
  have J := hD.next H.below
  clear hC hD
  go_enter Tryd.func11, Tryd.ntmps11
  go_wp2_with fail
  refine (absOkI _ _ _ _ _ _ _ _ _ _ _ hn I).mono ?_
  rintro e w1 ⟨rfl, hb⟩
  rw [g]
  replace H := H.next hb
  replace J := J.next hb
  clear hb
  have r0 := H.cell List.mem_cons_self (i := 0) rfl
  have r1 := H.cell List.mem_cons_self (i := 1) rfl
  have r2 := H.cell List.mem_cons_self (i := 2) rfl
  have r3 := H.cell List.mem_cons_self (i := 3) rfl
  have fr := H.free _ List.mem_cons_self
  dsimp only at r0 r1 r2 r3 fr
  obtain ⟨e0, e1, e2, e3⟩ := own4c r0 r1 r2 r3
  have bE := H.below
  go_wp2_with fail
  refine bodyPost_ret (v := .agg #[.bool false, .slice none 0 0, .int .i64 0, .int .i64 0]) (by simp [results, Tryd.results11, go_sem, e0, e1, e2, e3]) rfl ⟨rfl, ?_⟩
  exact setAll_below (g := w.heap.size + 1 + 1) (by omega) [.bool false, .slice none 0 0, .int .i64 0, .int .i64 0] 0 _ bE
set_option maxRecDepth 10000 in
set_option maxHeartbeats 8000000 in
theorem absJoinI_1 (on : Bool) (a : Option Addr) (b off n cap : Nat) (lo hi : Nat → Int) (c d : Int) (on' : Bool) (a' : Option Addr) (b' off' n' cap' : Nat) (lo' hi' : Nat → Int) (c' d' : Int) (w : World) (hn : n ≤ 1048576) (hn' : n' ≤ 1048576) (hC : BndsAt a b off n lo hi w) (hD : BndsAt a' b' off' n' lo' hi' w) (g : absOk on n lo hi c d = true) (g' : absOk on' n' lo' hi' c' d' = false) :
    Calls Tryd.prog 11 #[.agg #[.bool on, .slice a n cap, .int .i64 c, .int .i64 d], .agg #[.bool on', .slice a' n' cap', .int .i64 c', .int .i64 d']] w fun e w' => e = .returned (.agg #[.bool false, .slice none 0 0, .int .i64 0, .int .i64 0]) ∧ Below w.heap.size w w' := by
  have H : HeldL w ((w.heap.size + 1 + 1, [Value.bool false, .slice none 0 0, .int .i64 0, .int .i64 0]) :: [(w.heap.size + 1, [Value.bool on', .slice a' n' cap', .int .i64 c', .int .i64 d']), (w.heap.size, [Value.bool on, .slice a n cap, .int .i64 c, .int .i64 d])]) (((w.alloc (.cells #[.bool on, .slice a n cap, .int .i64 c, .int .i64 d] 27)).alloc (.cells #[.bool on', .slice a' n' cap', .int .i64 c', .int .i64 d'] 27)).alloc (.cells #[.bool false, .slice none 0 0, .int .i64 0, .int .i64 0] 27)) := by
    have e1 : w.heap.size + 1 = (w.alloc (.cells #[.bool on, .slice a n cap, .int .i64 c, .int .i64 d] 27)).heap.size := by simp
    have e2 : w.heap.size + 1 + 1 = ((w.alloc (.cells #[.bool on, .slice a n cap, .int .i64 c, .int .i64 d] 27)).alloc (.cells #[.bool on', .slice a' n' cap', .int .i64 c', .int .i64 d'] 27)).heap.size := by simp
    rw [e2, e1]
    exact HeldL.newL (vs := [Value.bool false, .slice none 0 0, .int .i64 0, .int .i64 0]) (HeldL.newL (vs := [Value.bool on', .slice a' n' cap', .int .i64 c', .int .i64 d']) (HeldL.newL (vs := [Value.bool on, .slice a n cap, .int .i64 c, .int .i64 d]) (HeldL.nil w)))
  have I := hC.next H.below
  have J := hD.next H.below
  clear hC hD
  go_enter Tryd.func11, Tryd.ntmps11
  go_wp2_with fail
  refine (absOkI _ _ _ _ _ _ _ _ _ _ _ hn I).mono ?_
  rintro e w1 ⟨rfl, hb⟩
  rw [g]
  replace H := H.next hb
  replace J := J.next hb
  clear hb
  have x0 := H.cell (List.mem_cons_of_mem _ List.mem_cons_self) (i := 0) rfl
  have x1 := H.cell (List.mem_cons_of_mem _ List.mem_cons_self) (i := 1) rfl
  have x2 := H.cell (List.mem_cons_of_mem _ List.mem_cons_self) (i := 2) rfl
  have x3 := H.cell (List.mem_cons_of_mem _ List.mem_cons_self) (i := 3) rfl
  dsimp only at x0 x1 x2 x3
  go_wp2_with fail
  refine (absOkI _ _ _ _ _ _ _ _ _ _ _ hn' J).mono ?_
  rintro e w2 ⟨rfl, hb⟩
  rw [g']
  replace H := H.next hb
  clear hb x0 x1 x2 x3
  have r0 := H.cell List.mem_cons_self (i := 0) rfl
  have r1 := H.cell List.mem_cons_self (i := 1) rfl
  have r2 := H.cell List.mem_cons_self (i := 2) rfl
  have r3 := H.cell List.mem_cons_self (i := 3) rfl
  have fr := H.free _ List.mem_cons_self
  dsimp only at r0 r1 r2 r3 fr
  obtain ⟨e0, e1, e2, e3⟩ := own4c r0 r1 r2 r3
  have bE := H.below
  go_wp2_with fail
  refine bodyPost_ret (v := .agg #[.bool false, .slice none 0 0, .int .i64 0, .int .i64 0]) (by simp [results, Tryd.results11, go_sem, e0, e1, e2, e3]) rfl ⟨rfl, ?_⟩
  exact setAll_below (g := w.heap.size + 1 + 1) (by omega) [.bool false, .slice none 0 0, .int .i64 0, .int .i64 0] 0 _ bE
theorem absJoinI (on : Bool) (a : Option Addr) (b off n cap : Nat) (lo hi : Nat → Int) (c d : Int) (on' : Bool) (a' : Option Addr) (b' off' n' cap' : Nat) (lo' hi' : Nat → Int) (c' d' : Int) (w : World) (hn : n ≤ 1048576) (hn' : n' ≤ 1048576) (hC : BndsAt a b off n lo hi w) (hD : BndsAt a' b' off' n' lo' hi' w) :
    Calls Tryd.prog 11 #[.agg #[.bool on, .slice a n cap, .int .i64 c, .int .i64 d], .agg #[.bool on', .slice a' n' cap', .int .i64 c', .int .i64 d']] w fun e w' => ∃ v, e = .returned v ∧ StIs w.heap.size ((absOk on n lo hi c d && absOk on' n' lo' hi' c' d') && (on || on')) (onN ((absOk on n lo hi c d && absOk on' n' lo' hi' c' d') && (on || on'))) (jF on on' (arL on lo c) (arL on' lo' c') (fun k => joinLo (arL on lo c k) (arL on hi d k) (arL on' lo' c' k) (arL on' hi' d' k))) (jF on on' (arL on hi d) (arL on' hi' d') (fun k => joinHi (arL on lo c k) (arL on hi d k) (arL on' lo' c' k) (arL on' hi' d' k))) (onF ((absOk on n lo hi c d && absOk on' n' lo' hi' c' d') && (on || on')) ((jF on on' (arL on lo c) (arL on' lo' c') (fun k => joinLo (arL on lo c k) (arL on hi d k) (arL on' lo' c' k) (arL on' hi' d' k))) 4)) (onF ((absOk on n lo hi c d && absOk on' n' lo' hi' c' d') && (on || on')) ((jF on on' (arL on hi d) (arL on' hi' d') (fun k => joinHi (arL on lo c k) (arL on hi d k) (arL on' lo' c' k) (arL on' hi' d' k))) 4)) v w' ∧ Below w.heap.size w w' := by
  cases g : absOk on n lo hi c d
  · refine (absJoinI_0 _ _ _ _ _ _ _ _ _ _ _ _ _ _ _ _ _ _ _ _ _ hn hn' hC hD g).mono ?_
    rintro e w' ⟨rfl, hb⟩
    exact ⟨_, rfl, ⟨none, 0, 0, rfl, BndsIs.nil0 _ _ _ _⟩, hb⟩
  cases g' : absOk on' n' lo' hi' c' d'
  · refine (absJoinI_1 _ _ _ _ _ _ _ _ _ _ _ _ _ _ _ _ _ _ _ _ _ hn hn' hC hD g g').mono ?_
    rintro e w' ⟨rfl, hb⟩
    exact ⟨_, rfl, ⟨none, 0, 0, rfl, BndsIs.nil0 _ _ _ _⟩, hb⟩
  · simp only [Bool.and_self, Bool.true_and]
    exact absJoinI_t _ _ _ _ _ _ _ _ _ _ _ _ _ _ _ _ _ _ _ _ _ _ _ _ _ _ _ hn hn' hC hD g g' rfl rfl rfl rfl rfl rfl
end Go.Proofs.YtiehokibfdaleaaDoor
namespace Go.Proofs.YtiehokibfdaleaaDoor
open Go.ChangeShapes Go.WideShapes Go.ChangeAt Go.RowKit

def stp : Nat → Int
  | 0 => -32768
  | 1 => -1000
  | 2 => -100
  | 3 => -10
  | 4 => -1
  | 5 => 0
  | 6 => 1
  | 7 => 10
  | 8 => 100
  | 9 => 1000
  | _ => 32767
def dnA (a n : Int) : Nat → Int
  | 0 => a
  | k + 1 => if stp k ≤ n then stp k else dnA a n k
def upA (a n : Int) : Nat → Int
  | 0 => a
  | j + 1 => if n ≤ stp (10 - j) then stp (10 - j) else upA a n j
def stepTab : List Int := [-32768, -1000, -100, -10, -1, 0, 1, 10, 100, 1000, 32767]
theorem dnA_any (a n : Int) (h : -32768 ≤ n) (k : Nat) : dnA a n (k + 1) = dnA (-32768) n (k + 1) := by
  induction k with
  | zero => simp [dnA, stp, h]
  | succ k ih => rw [dnA, ih]; rfl
theorem upA_any (a n : Int) (h : n ≤ 32767) (k : Nat) : upA a n (k + 1) = upA 32767 n (k + 1) := by
  induction k with
  | zero => simp [upA, stp, h]
  | succ k ih => rw [upA, ih]; rfl
def wideLo (a b c d : Int) : Int := if two a b c d then (if c < a then dnA (-32768) c 11 else a) else 0
def wideHi (a b c d : Int) : Int := if two a b c d then (if b < d then upA 32767 d 11 else b) else 0

theorem gSteps : Tryd.prog.globalNamed "loop.example/outwork/impl.wideSteps" = some 0 := by kernel_rfl
def StepsIn (w : World) : Prop := Lib.TabIs Tryd.prog w "loop.example/outwork/impl.wideSteps" .i64 stepTab
theorem StepsIn.at {w : World} (h : StepsIn w) : w.cell? ⟨0, 0, none⟩ = some (.int .i64 (-32768)) ∧ w.cell? ⟨0, 1, none⟩ = some (.int .i64 (-1000)) ∧ w.cell? ⟨0, 2, none⟩ = some (.int .i64 (-100)) ∧ w.cell? ⟨0, 3, none⟩ = some (.int .i64 (-10)) ∧ w.cell? ⟨0, 4, none⟩ = some (.int .i64 (-1)) ∧ w.cell? ⟨0, 5, none⟩ = some (.int .i64 0) ∧ w.cell? ⟨0, 6, none⟩ = some (.int .i64 1) ∧ w.cell? ⟨0, 7, none⟩ = some (.int .i64 10) ∧ w.cell? ⟨0, 8, none⟩ = some (.int .i64 100) ∧ w.cell? ⟨0, 9, none⟩ = some (.int .i64 1000) ∧ w.cell? ⟨0, 10, none⟩ = some (.int .i64 32767) :=
  ⟨Lib.TabIs.cell h gSteps 0 (by decide), Lib.TabIs.cell h gSteps 1 (by decide), Lib.TabIs.cell h gSteps 2 (by decide), Lib.TabIs.cell h gSteps 3 (by decide), Lib.TabIs.cell h gSteps 4 (by decide), Lib.TabIs.cell h gSteps 5 (by decide), Lib.TabIs.cell h gSteps 6 (by decide), Lib.TabIs.cell h gSteps 7 (by decide), Lib.TabIs.cell h gSteps 8 (by decide), Lib.TabIs.cell h gSteps 9 (by decide), Lib.TabIs.cell h gSteps 10 (by decide)⟩

theorem idx_0 (w : World) : (Instr.index 62 (.agg #[.int .i64 (-32768), .int .i64 (-1000), .int .i64 (-100), .int .i64 (-10), .int .i64 (-1), .int .i64 0, .int .i64 1, .int .i64 10, .int .i64 100, .int .i64 1000, .int .i64 32767]) (.int .i64 0)).run Tryd.prog w = .ok (.int .i64 (-32768)) w := by kernel_rfl
theorem idx_1 (w : World) : (Instr.index 62 (.agg #[.int .i64 (-32768), .int .i64 (-1000), .int .i64 (-100), .int .i64 (-10), .int .i64 (-1), .int .i64 0, .int .i64 1, .int .i64 10, .int .i64 100, .int .i64 1000, .int .i64 32767]) (.int .i64 1)).run Tryd.prog w = .ok (.int .i64 (-1000)) w := by kernel_rfl
theorem idx_2 (w : World) : (Instr.index 62 (.agg #[.int .i64 (-32768), .int .i64 (-1000), .int .i64 (-100), .int .i64 (-10), .int .i64 (-1), .int .i64 0, .int .i64 1, .int .i64 10, .int .i64 100, .int .i64 1000, .int .i64 32767]) (.int .i64 2)).run Tryd.prog w = .ok (.int .i64 (-100)) w := by kernel_rfl
theorem idx_3 (w : World) : (Instr.index 62 (.agg #[.int .i64 (-32768), .int .i64 (-1000), .int .i64 (-100), .int .i64 (-10), .int .i64 (-1), .int .i64 0, .int .i64 1, .int .i64 10, .int .i64 100, .int .i64 1000, .int .i64 32767]) (.int .i64 3)).run Tryd.prog w = .ok (.int .i64 (-10)) w := by kernel_rfl
theorem idx_4 (w : World) : (Instr.index 62 (.agg #[.int .i64 (-32768), .int .i64 (-1000), .int .i64 (-100), .int .i64 (-10), .int .i64 (-1), .int .i64 0, .int .i64 1, .int .i64 10, .int .i64 100, .int .i64 1000, .int .i64 32767]) (.int .i64 4)).run Tryd.prog w = .ok (.int .i64 (-1)) w := by kernel_rfl
theorem idx_5 (w : World) : (Instr.index 62 (.agg #[.int .i64 (-32768), .int .i64 (-1000), .int .i64 (-100), .int .i64 (-10), .int .i64 (-1), .int .i64 0, .int .i64 1, .int .i64 10, .int .i64 100, .int .i64 1000, .int .i64 32767]) (.int .i64 5)).run Tryd.prog w = .ok (.int .i64 0) w := by kernel_rfl
theorem idx_6 (w : World) : (Instr.index 62 (.agg #[.int .i64 (-32768), .int .i64 (-1000), .int .i64 (-100), .int .i64 (-10), .int .i64 (-1), .int .i64 0, .int .i64 1, .int .i64 10, .int .i64 100, .int .i64 1000, .int .i64 32767]) (.int .i64 6)).run Tryd.prog w = .ok (.int .i64 1) w := by kernel_rfl
theorem idx_7 (w : World) : (Instr.index 62 (.agg #[.int .i64 (-32768), .int .i64 (-1000), .int .i64 (-100), .int .i64 (-10), .int .i64 (-1), .int .i64 0, .int .i64 1, .int .i64 10, .int .i64 100, .int .i64 1000, .int .i64 32767]) (.int .i64 7)).run Tryd.prog w = .ok (.int .i64 10) w := by kernel_rfl
theorem idx_8 (w : World) : (Instr.index 62 (.agg #[.int .i64 (-32768), .int .i64 (-1000), .int .i64 (-100), .int .i64 (-10), .int .i64 (-1), .int .i64 0, .int .i64 1, .int .i64 10, .int .i64 100, .int .i64 1000, .int .i64 32767]) (.int .i64 8)).run Tryd.prog w = .ok (.int .i64 100) w := by kernel_rfl
theorem idx_9 (w : World) : (Instr.index 62 (.agg #[.int .i64 (-32768), .int .i64 (-1000), .int .i64 (-100), .int .i64 (-10), .int .i64 (-1), .int .i64 0, .int .i64 1, .int .i64 10, .int .i64 100, .int .i64 1000, .int .i64 32767]) (.int .i64 9)).run Tryd.prog w = .ok (.int .i64 1000) w := by kernel_rfl
theorem idx_10 (w : World) : (Instr.index 62 (.agg #[.int .i64 (-32768), .int .i64 (-1000), .int .i64 (-100), .int .i64 (-10), .int .i64 (-1), .int .i64 0, .int .i64 1, .int .i64 10, .int .i64 100, .int .i64 1000, .int .i64 32767]) (.int .i64 10)).run Tryd.prog w = .ok (.int .i64 32767) w := by kernel_rfl

set_option maxRecDepth 10000 in
set_option maxHeartbeats 4000000 in
theorem belowI (n : Int) (w : World) (h : StepsIn w) :
    Calls Tryd.prog 30 #[.int .i64 n] w fun e w' => e = .returned (.int .i64 (dnA (-32768) n 11)) ∧ w' = w := by
  obtain ⟨t0, t1, t2, t3, t4, t5, t6, t7, t8, t9, t10⟩ := h.at
  go_enter Tryd.func30, Tryd.ntmps30
  go_wp2
  clear t0 t1 t2 t3 t4 t5 t6 t7 t8 t9 t10
  go_loop [3, 7] (fun m i => ∃ k : Nat, k ≤ 11 ∧ i = .int .i64 k ∧ m = .int .i64 (dnA (-32768) n k)) (fun _ i => 11 - (intOf i).toNat)
  case atStart => exact ⟨0, Nat.zero_le _, rfl, rfl⟩
  case round =>
    obtain ⟨k, hk, rfl, rfl⟩ := hrel
    rcases (show k = 0 ∨ k = 1 ∨ k = 2 ∨ k = 3 ∨ k = 4 ∨ k = 5 ∨ k = 6 ∨ k = 7 ∨ k = 8 ∨ k = 9 ∨ k = 10 ∨ k = 11 by omega) with rfl | rfl | rfl | rfl | rfl | rfl | rfl | rfl | rfl | rfl | rfl | rfl
    · have q := idx_0
      have E : Hid (∀ m, m = dnA (-32768) n 0 → dnA (-32768) n (0 + 1) = if (-32768) ≤ n then (-32768) else m) := fun m hm => by subst hm; rfl
      obtain ⟨m, hm⟩ : ∃ m, m = dnA (-32768) n 0 := ⟨_, rfl⟩
      have E1 : Hid (dnA (-32768) n (0 + 1) = if (-32768) ≤ n then (-32768) else m) := E m hm
      rw [← hm]
      clear hm E
      go_wp2
      all_goals go_round
      all_goals
        have E2 : dnA (-32768) n (0 + 1) = if (-32768) ≤ n then (-32768) else m := E1
        first | exact ⟨0 + 1, by omega, by go_num, by rw [E2]; (try rw [if_pos (by assumption)]); (try rw [if_neg (by assumption)]); (try rw [if_neg (by omega)])⟩ | (simp [intOf])
    · have q := idx_1
      have E : Hid (∀ m, m = dnA (-32768) n 1 → dnA (-32768) n (1 + 1) = if (-1000) ≤ n then (-1000) else m) := fun m hm => by subst hm; rfl
      obtain ⟨m, hm⟩ : ∃ m, m = dnA (-32768) n 1 := ⟨_, rfl⟩
      have E1 : Hid (dnA (-32768) n (1 + 1) = if (-1000) ≤ n then (-1000) else m) := E m hm
      rw [← hm]
      clear hm E
      go_wp2
      all_goals go_round
      all_goals
        have E2 : dnA (-32768) n (1 + 1) = if (-1000) ≤ n then (-1000) else m := E1
        first | exact ⟨1 + 1, by omega, by go_num, by rw [E2]; (try rw [if_pos (by assumption)]); (try rw [if_neg (by assumption)]); (try rw [if_neg (by omega)])⟩ | (simp [intOf])
    · have q := idx_2
      have E : Hid (∀ m, m = dnA (-32768) n 2 → dnA (-32768) n (2 + 1) = if (-100) ≤ n then (-100) else m) := fun m hm => by subst hm; rfl
      obtain ⟨m, hm⟩ : ∃ m, m = dnA (-32768) n 2 := ⟨_, rfl⟩
      have E1 : Hid (dnA (-32768) n (2 + 1) = if (-100) ≤ n then (-100) else m) := E m hm
      rw [← hm]
      clear hm E
      go_wp2
      all_goals go_round
      all_goals
        have E2 : dnA (-32768) n (2 + 1) = if (-100) ≤ n then (-100) else m := E1
        first | exact ⟨2 + 1, by omega, by go_num, by rw [E2]; (try rw [if_pos (by assumption)]); (try rw [if_neg (by assumption)]); (try rw [if_neg (by omega)])⟩ | (simp [intOf])
    · have q := idx_3
      have E : Hid (∀ m, m = dnA (-32768) n 3 → dnA (-32768) n (3 + 1) = if (-10) ≤ n then (-10) else m) := fun m hm => by subst hm; rfl
      obtain ⟨m, hm⟩ : ∃ m, m = dnA (-32768) n 3 := ⟨_, rfl⟩
      have E1 : Hid (dnA (-32768) n (3 + 1) = if (-10) ≤ n then (-10) else m) := E m hm
      rw [← hm]
      clear hm E
      go_wp2
      all_goals go_round
      all_goals
        have E2 : dnA (-32768) n (3 + 1) = if (-10) ≤ n then (-10) else m := E1
        first | exact ⟨3 + 1, by omega, by go_num, by rw [E2]; (try rw [if_pos (by assumption)]); (try rw [if_neg (by assumption)]); (try rw [if_neg (by omega)])⟩ | (simp [intOf])
    · have q := idx_4
      have E : Hid (∀ m, m = dnA (-32768) n 4 → dnA (-32768) n (4 + 1) = if (-1) ≤ n then (-1) else m) := fun m hm => by subst hm; rfl
      obtain ⟨m, hm⟩ : ∃ m, m = dnA (-32768) n 4 := ⟨_, rfl⟩
      have E1 : Hid (dnA (-32768) n (4 + 1) = if (-1) ≤ n then (-1) else m) := E m hm
      rw [← hm]
      clear hm E
      go_wp2
      all_goals go_round
      all_goals
        have E2 : dnA (-32768) n (4 + 1) = if (-1) ≤ n then (-1) else m := E1
        first | exact ⟨4 + 1, by omega, by go_num, by rw [E2]; (try rw [if_pos (by assumption)]); (try rw [if_neg (by assumption)]); (try rw [if_neg (by omega)])⟩ | (simp [intOf])
    · have q := idx_5
      have E : Hid (∀ m, m = dnA (-32768) n 5 → dnA (-32768) n (5 + 1) = if 0 ≤ n then 0 else m) := fun m hm => by subst hm; rfl
      obtain ⟨m, hm⟩ : ∃ m, m = dnA (-32768) n 5 := ⟨_, rfl⟩
      have E1 : Hid (dnA (-32768) n (5 + 1) = if 0 ≤ n then 0 else m) := E m hm
      rw [← hm]
      clear hm E
      go_wp2
      all_goals go_round
      all_goals
        have E2 : dnA (-32768) n (5 + 1) = if 0 ≤ n then 0 else m := E1
        first | exact ⟨5 + 1, by omega, by go_num, by rw [E2]; (try rw [if_pos (by assumption)]); (try rw [if_neg (by assumption)]); (try rw [if_neg (by omega)])⟩ | (simp [intOf])
    · have q := idx_6
      have E : Hid (∀ m, m = dnA (-32768) n 6 → dnA (-32768) n (6 + 1) = if 1 ≤ n then 1 else m) := fun m hm => by subst hm; rfl
      obtain ⟨m, hm⟩ : ∃ m, m = dnA (-32768) n 6 := ⟨_, rfl⟩
      have E1 : Hid (dnA (-32768) n (6 + 1) = if 1 ≤ n then 1 else m) := E m hm
      rw [← hm]
      clear hm E
      go_wp2
      all_goals go_round
      all_goals
        have E2 : dnA (-32768) n (6 + 1) = if 1 ≤ n then 1 else m := E1
        first | exact ⟨6 + 1, by omega, by go_num, by rw [E2]; (try rw [if_pos (by assumption)]); (try rw [if_neg (by assumption)]); (try rw [if_neg (by omega)])⟩ | (simp [intOf])
    · have q := idx_7
      have E : Hid (∀ m, m = dnA (-32768) n 7 → dnA (-32768) n (7 + 1) = if 10 ≤ n then 10 else m) := fun m hm => by subst hm; rfl
      obtain ⟨m, hm⟩ : ∃ m, m = dnA (-32768) n 7 := ⟨_, rfl⟩
      have E1 : Hid (dnA (-32768) n (7 + 1) = if 10 ≤ n then 10 else m) := E m hm
      rw [← hm]
      clear hm E
      go_wp2
      all_goals go_round
      all_goals
        have E2 : dnA (-32768) n (7 + 1) = if 10 ≤ n then 10 else m := E1
        first | exact ⟨7 + 1, by omega, by go_num, by rw [E2]; (try rw [if_pos (by assumption)]); (try rw [if_neg (by assumption)]); (try rw [if_neg (by omega)])⟩ | (simp [intOf])
    · have q := idx_8
      have E : Hid (∀ m, m = dnA (-32768) n 8 → dnA (-32768) n (8 + 1) = if 100 ≤ n then 100 else m) := fun m hm => by subst hm; rfl
      obtain ⟨m, hm⟩ : ∃ m, m = dnA (-32768) n 8 := ⟨_, rfl⟩
      have E1 : Hid (dnA (-32768) n (8 + 1) = if 100 ≤ n then 100 else m) := E m hm
      rw [← hm]
      clear hm E
      go_wp2
      all_goals go_round
      all_goals
        have E2 : dnA (-32768) n (8 + 1) = if 100 ≤ n then 100 else m := E1
        first | exact ⟨8 + 1, by omega, by go_num, by rw [E2]; (try rw [if_pos (by assumption)]); (try rw [if_neg (by assumption)]); (try rw [if_neg (by omega)])⟩ | (simp [intOf])
    · have q := idx_9
      have E : Hid (∀ m, m = dnA (-32768) n 9 → dnA (-32768) n (9 + 1) = if 1000 ≤ n then 1000 else m) := fun m hm => by subst hm; rfl
      obtain ⟨m, hm⟩ : ∃ m, m = dnA (-32768) n 9 := ⟨_, rfl⟩
      have E1 : Hid (dnA (-32768) n (9 + 1) = if 1000 ≤ n then 1000 else m) := E m hm
      rw [← hm]
      clear hm E
      go_wp2
      all_goals go_round
      all_goals
        have E2 : dnA (-32768) n (9 + 1) = if 1000 ≤ n then 1000 else m := E1
        first | exact ⟨9 + 1, by omega, by go_num, by rw [E2]; (try rw [if_pos (by assumption)]); (try rw [if_neg (by assumption)]); (try rw [if_neg (by omega)])⟩ | (simp [intOf])
    · have q := idx_10
      have E : Hid (∀ m, m = dnA (-32768) n 10 → dnA (-32768) n (10 + 1) = if 32767 ≤ n then 32767 else m) := fun m hm => by subst hm; rfl
      obtain ⟨m, hm⟩ : ∃ m, m = dnA (-32768) n 10 := ⟨_, rfl⟩
      have E1 : Hid (dnA (-32768) n (10 + 1) = if 32767 ≤ n then 32767 else m) := E m hm
      rw [← hm]
      clear hm E
      go_wp2
      all_goals go_round
      all_goals
        have E2 : dnA (-32768) n (10 + 1) = if 32767 ≤ n then 32767 else m := E1
        first | exact ⟨10 + 1, by omega, by go_num, by rw [E2]; (try rw [if_pos (by assumption)]); (try rw [if_neg (by assumption)]); (try rw [if_neg (by omega)])⟩ | (simp [intOf])
    · go_wp2
      go_ret
      exact ⟨rfl, rfl⟩
theorem upA_eq (n : Int) : upA 32767 n 11 = if n ≤ (-32768) then (-32768) else if n ≤ (-1000) then (-1000) else if n ≤ (-100) then (-100) else if n ≤ (-10) then (-10) else if n ≤ (-1) then (-1) else if n ≤ 0 then 0 else if n ≤ 1 then 1 else if n ≤ 10 then 10 else if n ≤ 100 then 100 else if n ≤ 1000 then 1000 else if n ≤ 32767 then 32767 else 32767 := rfl

set_option maxRecDepth 10000 in
set_option maxHeartbeats 4000000 in
theorem aboveI (n : Int) (w : World) (h : StepsIn w) :
    Calls Tryd.prog 31 #[.int .i64 n] w fun e w' => e = .returned (.int .i64 (upA 32767 n 11)) ∧ w' = w := by
  obtain ⟨t0, t1, t2, t3, t4, t5, t6, t7, t8, t9, t10⟩ := h.at
  have E : Hid (upA 32767 n 11 = if n ≤ (-32768) then (-32768) else if n ≤ (-1000) then (-1000) else if n ≤ (-100) then (-100) else if n ≤ (-10) then (-10) else if n ≤ (-1) then (-1) else if n ≤ 0 then 0 else if n ≤ 1 then 1 else if n ≤ 10 then 10 else if n ≤ 100 then 100 else if n ≤ 1000 then 1000 else if n ≤ 32767 then 32767 else 32767) := upA_eq n
  generalize upA 32767 n 11 = r at E
  go_enter Tryd.func31, Tryd.ntmps31
  go_wp2
  clear t0 t1 t2 t3 t4 t5 t6 t7 t8 t9 t10
  go_loop [6] (fun i => ∃ k : Nat, k ≤ 11 ∧ i = .int .i64 k ∧ ∀ j, j + 1 = k → stp j < n) (fun i => 11 - (intOf i).toNat)
  case atStart => exact ⟨0, Nat.zero_le _, rfl, fun j hj => by omega⟩
  case round =>
    obtain ⟨k, hk, rfl, hlt⟩ := hrel
    rcases (show k = 0 ∨ k = 1 ∨ k = 2 ∨ k = 3 ∨ k = 4 ∨ k = 5 ∨ k = 6 ∨ k = 7 ∨ k = 8 ∨ k = 9 ∨ k = 10 ∨ k = 11 by omega) with rfl | rfl | rfl | rfl | rfl | rfl | rfl | rfl | rfl | rfl | rfl | rfl
    · have q := idx_0
      clear hlt
      go_wp2
      · have hge : n ≤ (-32768) := by assumption
        have E1 : r = if n ≤ (-32768) then (-32768) else if n ≤ (-1000) then (-1000) else if n ≤ (-100) then (-100) else if n ≤ (-10) then (-10) else if n ≤ (-1) then (-1) else if n ≤ 0 then 0 else if n ≤ 1 then 1 else if n ≤ 10 then 10 else if n ≤ 100 then 100 else if n ≤ 1000 then 1000 else if n ≤ 32767 then 32767 else 32767 := E
        go_ret
        refine ⟨ret_int ?_, rfl⟩
        rw [E1]
        repeat' split
        all_goals omega
      · have hl : (-32768) < n := by first | assumption | omega
        go_round
        case rel => exact ⟨0 + 1, by omega, by go_num, fun j hj => by
          obtain rfl : j = 0 := by omega
          exact hl⟩
        case measure => simp [intOf]
    · have q := idx_1
      have hp : (-32768) < n := hlt 0 rfl
      clear hlt
      go_wp2
      · have hge : n ≤ (-1000) := by assumption
        have E1 : r = if n ≤ (-32768) then (-32768) else if n ≤ (-1000) then (-1000) else if n ≤ (-100) then (-100) else if n ≤ (-10) then (-10) else if n ≤ (-1) then (-1) else if n ≤ 0 then 0 else if n ≤ 1 then 1 else if n ≤ 10 then 10 else if n ≤ 100 then 100 else if n ≤ 1000 then 1000 else if n ≤ 32767 then 32767 else 32767 := E
        go_ret
        refine ⟨ret_int ?_, rfl⟩
        rw [E1]
        repeat' split
        all_goals omega
      · have hl : (-1000) < n := by first | assumption | omega
        go_round
        case rel => exact ⟨1 + 1, by omega, by go_num, fun j hj => by
          obtain rfl : j = 1 := by omega
          exact hl⟩
        case measure => simp [intOf]
    · have q := idx_2
      have hp : (-1000) < n := hlt 1 rfl
      clear hlt
      go_wp2
      · have hge : n ≤ (-100) := by assumption
        have E1 : r = if n ≤ (-32768) then (-32768) else if n ≤ (-1000) then (-1000) else if n ≤ (-100) then (-100) else if n ≤ (-10) then (-10) else if n ≤ (-1) then (-1) else if n ≤ 0 then 0 else if n ≤ 1 then 1 else if n ≤ 10 then 10 else if n ≤ 100 then 100 else if n ≤ 1000 then 1000 else if n ≤ 32767 then 32767 else 32767 := E
        go_ret
        refine ⟨ret_int ?_, rfl⟩
        rw [E1]
        repeat' split
        all_goals omega
      · have hl : (-100) < n := by first | assumption | omega
        go_round
        case rel => exact ⟨2 + 1, by omega, by go_num, fun j hj => by
          obtain rfl : j = 2 := by omega
          exact hl⟩
        case measure => simp [intOf]
    · have q := idx_3
      have hp : (-100) < n := hlt 2 rfl
      clear hlt
      go_wp2
      · have hge : n ≤ (-10) := by assumption
        have E1 : r = if n ≤ (-32768) then (-32768) else if n ≤ (-1000) then (-1000) else if n ≤ (-100) then (-100) else if n ≤ (-10) then (-10) else if n ≤ (-1) then (-1) else if n ≤ 0 then 0 else if n ≤ 1 then 1 else if n ≤ 10 then 10 else if n ≤ 100 then 100 else if n ≤ 1000 then 1000 else if n ≤ 32767 then 32767 else 32767 := E
        go_ret
        refine ⟨ret_int ?_, rfl⟩
        rw [E1]
        repeat' split
        all_goals omega
      · have hl : (-10) < n := by first | assumption | omega
        go_round
        case rel => exact ⟨3 + 1, by omega, by go_num, fun j hj => by
          obtain rfl : j = 3 := by omega
          exact hl⟩
        case measure => simp [intOf]
    · have q := idx_4
      have hp : (-10) < n := hlt 3 rfl
      clear hlt
      go_wp2
      · have hge : n ≤ (-1) := by assumption
        have E1 : r = if n ≤ (-32768) then (-32768) else if n ≤ (-1000) then (-1000) else if n ≤ (-100) then (-100) else if n ≤ (-10) then (-10) else if n ≤ (-1) then (-1) else if n ≤ 0 then 0 else if n ≤ 1 then 1 else if n ≤ 10 then 10 else if n ≤ 100 then 100 else if n ≤ 1000 then 1000 else if n ≤ 32767 then 32767 else 32767 := E
        go_ret
        refine ⟨ret_int ?_, rfl⟩
        rw [E1]
        repeat' split
        all_goals omega
      · have hl : (-1) < n := by first | assumption | omega
        go_round
        case rel => exact ⟨4 + 1, by omega, by go_num, fun j hj => by
          obtain rfl : j = 4 := by omega
          exact hl⟩
        case measure => simp [intOf]
    · have q := idx_5
      have hp : (-1) < n := hlt 4 rfl
      clear hlt
      go_wp2
      · have hge : n ≤ 0 := by assumption
        have E1 : r = if n ≤ (-32768) then (-32768) else if n ≤ (-1000) then (-1000) else if n ≤ (-100) then (-100) else if n ≤ (-10) then (-10) else if n ≤ (-1) then (-1) else if n ≤ 0 then 0 else if n ≤ 1 then 1 else if n ≤ 10 then 10 else if n ≤ 100 then 100 else if n ≤ 1000 then 1000 else if n ≤ 32767 then 32767 else 32767 := E
        go_ret
        refine ⟨ret_int ?_, rfl⟩
        rw [E1]
        repeat' split
        all_goals omega
      · have hl : 0 < n := by first | assumption | omega
        go_round
        case rel => exact ⟨5 + 1, by omega, by go_num, fun j hj => by
          obtain rfl : j = 5 := by omega
          exact hl⟩
        case measure => simp [intOf]
    · have q := idx_6
      have hp : 0 < n := hlt 5 rfl
      clear hlt
      go_wp2
      · have hge : n ≤ 1 := by assumption
        have E1 : r = if n ≤ (-32768) then (-32768) else if n ≤ (-1000) then (-1000) else if n ≤ (-100) then (-100) else if n ≤ (-10) then (-10) else if n ≤ (-1) then (-1) else if n ≤ 0 then 0 else if n ≤ 1 then 1 else if n ≤ 10 then 10 else if n ≤ 100 then 100 else if n ≤ 1000 then 1000 else if n ≤ 32767 then 32767 else 32767 := E
        go_ret
        refine ⟨ret_int ?_, rfl⟩
        rw [E1]
        repeat' split
        all_goals omega
      · have hl : 1 < n := by first | assumption | omega
        go_round
        case rel => exact ⟨6 + 1, by omega, by go_num, fun j hj => by
          obtain rfl : j = 6 := by omega
          exact hl⟩
        case measure => simp [intOf]
    · have q := idx_7
      have hp : 1 < n := hlt 6 rfl
      clear hlt
      go_wp2
      · have hge : n ≤ 10 := by assumption
        have E1 : r = if n ≤ (-32768) then (-32768) else if n ≤ (-1000) then (-1000) else if n ≤ (-100) then (-100) else if n ≤ (-10) then (-10) else if n ≤ (-1) then (-1) else if n ≤ 0 then 0 else if n ≤ 1 then 1 else if n ≤ 10 then 10 else if n ≤ 100 then 100 else if n ≤ 1000 then 1000 else if n ≤ 32767 then 32767 else 32767 := E
        go_ret
        refine ⟨ret_int ?_, rfl⟩
        rw [E1]
        repeat' split
        all_goals omega
      · have hl : 10 < n := by first | assumption | omega
        go_round
        case rel => exact ⟨7 + 1, by omega, by go_num, fun j hj => by
          obtain rfl : j = 7 := by omega
          exact hl⟩
        case measure => simp [intOf]
    · have q := idx_8
      have hp : 10 < n := hlt 7 rfl
      clear hlt
      go_wp2
      · have hge : n ≤ 100 := by assumption
        have E1 : r = if n ≤ (-32768) then (-32768) else if n ≤ (-1000) then (-1000) else if n ≤ (-100) then (-100) else if n ≤ (-10) then (-10) else if n ≤ (-1) then (-1) else if n ≤ 0 then 0 else if n ≤ 1 then 1 else if n ≤ 10 then 10 else if n ≤ 100 then 100 else if n ≤ 1000 then 1000 else if n ≤ 32767 then 32767 else 32767 := E
        go_ret
        refine ⟨ret_int ?_, rfl⟩
        rw [E1]
        repeat' split
        all_goals omega
      · have hl : 100 < n := by first | assumption | omega
        go_round
        case rel => exact ⟨8 + 1, by omega, by go_num, fun j hj => by
          obtain rfl : j = 8 := by omega
          exact hl⟩
        case measure => simp [intOf]
    · have q := idx_9
      have hp : 100 < n := hlt 8 rfl
      clear hlt
      go_wp2
      · have hge : n ≤ 1000 := by assumption
        have E1 : r = if n ≤ (-32768) then (-32768) else if n ≤ (-1000) then (-1000) else if n ≤ (-100) then (-100) else if n ≤ (-10) then (-10) else if n ≤ (-1) then (-1) else if n ≤ 0 then 0 else if n ≤ 1 then 1 else if n ≤ 10 then 10 else if n ≤ 100 then 100 else if n ≤ 1000 then 1000 else if n ≤ 32767 then 32767 else 32767 := E
        go_ret
        refine ⟨ret_int ?_, rfl⟩
        rw [E1]
        repeat' split
        all_goals omega
      · have hl : 1000 < n := by first | assumption | omega
        go_round
        case rel => exact ⟨9 + 1, by omega, by go_num, fun j hj => by
          obtain rfl : j = 9 := by omega
          exact hl⟩
        case measure => simp [intOf]
    · have q := idx_10
      have hp : 1000 < n := hlt 9 rfl
      clear hlt
      go_wp2
      · have hge : n ≤ 32767 := by assumption
        have E1 : r = if n ≤ (-32768) then (-32768) else if n ≤ (-1000) then (-1000) else if n ≤ (-100) then (-100) else if n ≤ (-10) then (-10) else if n ≤ (-1) then (-1) else if n ≤ 0 then 0 else if n ≤ 1 then 1 else if n ≤ 10 then 10 else if n ≤ 100 then 100 else if n ≤ 1000 then 1000 else if n ≤ 32767 then 32767 else 32767 := E
        go_ret
        refine ⟨ret_int ?_, rfl⟩
        rw [E1]
        repeat' split
        all_goals omega
      · have hl : 32767 < n := by first | assumption | omega
        go_round
        case rel => exact ⟨10 + 1, by omega, by go_num, fun j hj => by
          obtain rfl : j = 10 := by omega
          exact hl⟩
        case measure => simp [intOf]
    · have hp : 32767 < n := hlt 10 rfl
      clear hlt
      go_wp2
      have E1 : r = if n ≤ (-32768) then (-32768) else if n ≤ (-1000) then (-1000) else if n ≤ (-100) then (-100) else if n ≤ (-10) then (-10) else if n ≤ (-1) then (-1) else if n ≤ 0 then 0 else if n ≤ 1 then 1 else if n ≤ 10 then 10 else if n ≤ 100 then 100 else if n ≤ 1000 then 1000 else if n ≤ 32767 then 32767 else 32767 := E
      go_ret
      refine ⟨ret_int ?_, rfl⟩
      rw [E1]
      repeat' split
      all_goals omega
end Go.Proofs.YtiehokibfdaleaaDoor
