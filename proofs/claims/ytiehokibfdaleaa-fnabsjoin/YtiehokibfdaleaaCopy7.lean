/- A list of four bounds appended to an empty one; the model's copy of a state. -/
import Derived.Test.YtiehokibfdaleaaAbsJoinI
namespace Go.Proofs.Ytiehokibfdaleaa
open Go.ChangeShapes Go.WideShapes Go.ChangeAt Go.RowKit
set_option linter.unusedVariables false

theorem append_fresh (x b off cap : Nat) (lo hi : Nat → Int) (W : World) (hC : BndsAt (some ⟨b, off, none⟩) b off 4 lo hi W) :
    ∃ (cp : Nat) (cells : Array Value), (∀ ty, (Builtin.append_ #[23, 23] ty #[.slice (some ⟨x, 0, none⟩) 0 0, .slice (some ⟨b, off, none⟩) 4 cap]).run Try.prog W = .ok (.slice (some ⟨W.heap.size, 0, none⟩) 4 cp) (W.drew.alloc (.cells cells 25))) ∧ BndsIs W.heap.size 4 lo hi (some ⟨W.heap.size, 0, none⟩) W.heap.size (W.drew.alloc (.cells cells 25)) := by
  have s0 := hC.lo 0 (by omega)
  have s1 := hC.hi 0 (by omega)
  have s2 := hC.lo 1 (by omega)
  have s3 := hC.hi 1 (by omega)
  have s4 := hC.lo 2 (by omega)
  have s5 := hC.hi 2 (by omega)
  have s6 := hC.lo 3 (by omega)
  have s7 := hC.hi 3 (by omega)
  simp only [Nat.zero_mul, Nat.one_mul, Nat.reduceMul, Nat.add_assoc, Nat.reduceAdd, Nat.add_zero] at s0 s1 s2 s3 s4 s5 s6 s7
  obtain ⟨i, hi0, hzz⟩ := Option.map_eq_some_iff.1 (show (Try.prog.info? 25).map (fun i => (i.zero, i.size, i.bytes)) = some (some (.agg #[.int .i64 0, .int .i64 0]), 2, 16) by kernel_rfl)
  simp only [Prod.mk.injEq] at hzz
  obtain ⟨hz, hs2, hb16⟩ := hzz
  have hsrc : Src Try.prog i.size 23 (.slice (some ⟨b, off, none⟩) 4 cap) 4 [.int .i64 (lo 0), .int .i64 (hi 0), .int .i64 (lo 1), .int .i64 (hi 1), .int .i64 (lo 2), .int .i64 (hi 2), .int .i64 (lo 3), .int .i64 (hi 3)] W := by
    rw [hs2]
    exact Src.ofSlice _ Try.underlying23 ⟨b, off, none⟩ 4 cap [.int .i64 (lo 0), .int .i64 (hi 0), .int .i64 (lo 1), .int .i64 (hi 1), .int .i64 (lo 2), .int .i64 (hi 2), .int .i64 (lo 3), .int .i64 (hi 3)] rfl (fun j v hj => by
      rw [addr_mk]
      match j, hj with
      | 0, hj => simp at hj; subst hj; exact s0
      | 1, hj => simp at hj; subst hj; exact s1
      | 2, hj => simp at hj; subst hj; exact s2
      | 3, hj => simp at hj; subst hj; exact s3
      | 4, hj => simp at hj; subst hj; exact s4
      | 5, hj => simp at hj; subst hj; exact s5
      | 6, hj => simp at hj; subst hj; exact s6
      | 7, hj => simp at hj; subst hj; exact s7
      | j + 8, hj => simp at hj) (by simp [Value.oneCell'])
  have hap := fun ty => run_append_grow_src (P := Try.prog) W 23 23 ty 25 i _ Try.underlying23 hi0 hz (some ⟨x, 0, none⟩) 0 0 []
    (run_firstCells_some _ i.size 0 ⟨x, 0, none⟩ 0 0 [] (by simp) (fun j u hj => by simp at hj)) (.slice (some ⟨b, off, none⟩) 4 cap) 4 _ hsrc (by decide) (by decide) (by rw [hb16]; decide)
  simp only [List.nil_append, Nat.zero_add] at hap
  refine ⟨_, _, hap, ?_⟩
  have hget : ∀ j v, ([.int .i64 (lo 0), .int .i64 (hi 0), .int .i64 (lo 1), .int .i64 (hi 1), .int .i64 (lo 2), .int .i64 (hi 2), .int .i64 (lo 3), .int .i64 (hi 3)] : List Value)[j]? = some v → (([.int .i64 (lo 0), .int .i64 (hi 0), .int .i64 (lo 1), .int .i64 (hi 1), .int .i64 (lo 2), .int .i64 (hi 2), .int .i64 (lo 3), .int .i64 (hi 3)] : List Value).toArray ++ Builtin.zeroCells (Value.cells (.agg #[.int .i64 0, .int .i64 0])) (grownCap W 4 0 25 - 4))[j]? = some v := fun j v hj => by
    rw [Array.getElem?_append_left (by simp; have := (List.getElem?_eq_some_iff.1 hj).1; simpa using this)]
    simpa using hj
  generalize ([.int .i64 (lo 0), .int .i64 (hi 0), .int .i64 (lo 1), .int .i64 (hi 1), .int .i64 (lo 2), .int .i64 (hi 2), .int .i64 (lo 3), .int .i64 (hi 3)] : List Value).toArray ++ Builtin.zeroCells (Value.cells (.agg #[.int .i64 0, .int .i64 0])) (grownCap W 4 0 25 - 4) = cells at hget ⊢
  have e : W.heap.size = W.drew.heap.size := rfl
  have hc : ∀ j v, ([.int .i64 (lo 0), .int .i64 (hi 0), .int .i64 (lo 1), .int .i64 (hi 1), .int .i64 (lo 2), .int .i64 (hi 2), .int .i64 (lo 3), .int .i64 (hi 3)] : List Value)[j]? = some v → (W.drew.alloc (.cells cells 25)).cell? ⟨W.heap.size, j, none⟩ = some v := fun j v hj => by
    rw [e]
    unfold World.cell?
    rw [heap_alloc_new]
    simpa using hget j v hj
  refine ⟨fun _ => Nat.le_refl _, fun _ j => by rw [e]; exact World.frozen?_alloc_new _ _ _ _, ⟨fun _ => rfl, fun _ => by simp, fun k hk => ?_, fun k hk => ?_⟩⟩
  · rcases (show k = 0 ∨ k = 1 ∨ k = 2 ∨ k = 3 by omega) with rfl | rfl | rfl | rfl
    · exact hc 0 _ rfl
    · exact hc 2 _ rfl
    · exact hc 4 _ rfl
    · exact hc 6 _ rfl
  · rcases (show k = 0 ∨ k = 1 ∨ k = 2 ∨ k = 3 by omega) with rfl | rfl | rfl | rfl
    · exact hc 1 _ rfl
    · exact hc 3 _ rfl
    · exact hc 5 _ rfl
    · exact hc 7 _ rfl
/-- An append whose run is known, as one operation of a region. -/
theorem wpAt_append_run {P : Program} {ops : Array Oper} {o : Oper} {a : Act} {w : World} {Q : Exit → Act → World → Prop} {ix d : Nat} {R : Value → World → Prop}
    (hi : ops[ix]? = some o) (hd : o.dst = some d) (hg : o.guard = none) (hlt : d < a.tmps.size) (s x : Operand) (dT sT : TypeId) (hop : o.op = Op.call { callee := Callee.builtin Builtin.append, args := #[s, x], argTypes := #[dT, sT] })
    (u y v' : Value) (w' : World) (hs : a.eval s = u) (hx : a.eval x = y) (hrun : ∀ ty, (Builtin.append_ #[dT, sT] ty #[u, y]).run P w = .ok v' w') (hK : R v' w') : wpAt P ops Q ix R a w := by
  refine wpAt_of hi hd ?_
  refine wpList_append_run hg s x dT sT hop u y v' w' hs hx hrun ?_
  rw [hd]
  simp [wpList, Exit.then, Act.put, hlt]
  exact hK
def E0V (v : Value) : Prop := ∃ x : Nat, v = .slice (some ⟨x, 0, none⟩) 0 0
set_option maxHeartbeats 4000000 in
theorem copyF (a : Option Addr) (n cap : Nat) (c d : Int) (w : World) :
    Calls Try.prog 26 #[.agg #[.bool false, .slice a n cap, .int .i64 c, .int .i64 d]] w fun e w' => e = .returned (.agg #[.bool false, .slice none 0 0, .int .i64 0, .int .i64 0]) ∧ Below w.heap.size w w' := by
  go_enter Try.func26, Try.ntmps26
  go_wp2
  refine bodyPost_ret (v := .agg #[.bool false, .slice none 0 0, .int .i64 0, .int .i64 0]) (by simp [results, Try.results26, go_sem]) rfl ⟨rfl, ?_⟩
  repeat (first | exact Below.refl _ _ | refine Below.drew ?_ | refine Below.alloc ?_ (by simp; try omega) _ | refine Below.setCell ?_ (by simp; try omega) _)
set_option maxRecDepth 10000 in
set_option maxHeartbeats 16000000 in
theorem copyT (b off cap : Nat) (lo hi : Nat → Int) (c d : Int) (w : World) (hC : BndsAt (some ⟨b, off, none⟩) b off 4 lo hi w) :
    Calls Try.prog 26 #[.agg #[.bool true, .slice (some ⟨b, off, none⟩) 4 cap, .int .i64 c, .int .i64 d]] w fun e w' => ∃ v, e = .returned v ∧ StIs w.heap.size true 4 lo hi c d v w' ∧ Below w.heap.size w w' := by
  have H : HeldL w ((w.heap.size + 1, [Value.bool false, .slice none 0 0, .int .i64 0, .int .i64 0]) :: [(w.heap.size, [Value.bool true, .slice (some ⟨b, off, none⟩) 4 cap, .int .i64 c, .int .i64 d])]) ((w.alloc (.cells #[.bool true, .slice (some ⟨b, off, none⟩) 4 cap, .int .i64 c, .int .i64 d] 27)).alloc (.cells #[.bool false, .slice none 0 0, .int .i64 0, .int .i64 0] 27)) := by
    have e1 : w.heap.size + 1 = (w.alloc (.cells #[.bool true, .slice (some ⟨b, off, none⟩) 4 cap, .int .i64 c, .int .i64 d] 27)).heap.size := by simp
    rw [e1]
    exact HeldL.newL (vs := [Value.bool false, .slice none 0 0, .int .i64 0, .int .i64 0]) (HeldL.newL (vs := [Value.bool true, .slice (some ⟨b, off, none⟩) 4 cap, .int .i64 c, .int .i64 d]) (HeldL.nil w))
  obtain ⟨Lr, hLr⟩ : ∃ L, L = [(w.heap.size, [Value.bool true, .slice (some ⟨b, off, none⟩) 4 cap, .int .i64 c, .int .i64 d])] := ⟨_, rfl⟩
  have ne0 : ∀ e ∈ Lr, e.1 ≠ w.heap.size + 1 := by rw [hLr]; intro e he; simp at he; subst he; dsimp only; omega
  have mA : (w.heap.size, [Value.bool true, .slice (some ⟨b, off, none⟩) 4 cap, .int .i64 c, .int .i64 d]) ∈ Lr := by rw [hLr]; simp
  rw [← hLr] at H
  clear hLr
  have hS0 : JnS w (w.heap.size + 1) (w.heap.size + 1 + 1) Lr true 4 lo hi c d (fun _ => false) ((w.alloc (.cells #[.bool true, .slice (some ⟨b, off, none⟩) 4 cap, .int .i64 c, .int .i64 d] 27)).alloc (.cells #[.bool false, .slice none 0 0, .int .i64 0, .int .i64 0] 27)).drew := ⟨fun _ => H.drew, (fun e => by cases e)⟩
  clear H
  go_enter Try.func26, Try.ntmps26
  go_wp2_with fail
  refine region_inv3 [(0, 7), (1, 8), (2, 9), (3, 10), (4, 11), (5, 12), (6, 13)]
    (fun j v W => match j with
      | 0 => E0V v
      | 1 => Is (.pointer (some ⟨w.heap.size, 1, none⟩)) v
      | 2 => Is (.slice (some ⟨b, off, none⟩) 4 cap) v
      | 3 => ClV (w.heap.size + 1 + 1) lo hi v W
      | 4 => Is (.pointer (some ⟨w.heap.size, 2, none⟩)) v
      | 5 => Is (.agg #[.int .i64 c, .int .i64 d]) v
      | 6 => StIs (w.heap.size + 1 + 1) true 4 lo hi c d v W
      | _ => True)
    (fun L W => JnS w (w.heap.size + 1) (w.heap.size + 1 + 1) Lr true 4 lo hi c d L W) (Trn (w.heap.size + 1))
    (by kernel_rfl) (by kernel_rfl) (by kernel_rfl) (by kernel_rfl) (by kernel_rfl) rfl hS0 ?_ ?_ ?_
  · intro i j v W W' hji hφ hT
    match j, hji, hφ with
    | 0, _, hφ => exact hφ
    | 1, _, hφ => exact hφ
    | 2, _, hφ => exact hφ
    | 3, _, hφ => obtain ⟨g, c, e, hb⟩ := hφ; exact ⟨g, c, e, hb.trn (by omega) hT⟩
    | 4, _, hφ => exact hφ
    | 5, _, hφ => exact hφ
    | 6, _, hφ => exact StIs.trn hφ (by omega) hT
    | _ + 7, _, _ => trivial
  · intro i L vals W hi' hφ hS hL hd
    have hi2 : i < 8 := hi'
    have hbig : w.heap.size + 1 < W.heap.size := hS.big
    clear hi' hS0
    rcases (show i = 0 ∨ i = 1 ∨ i = 2 ∨ i = 3 ∨ i = 4 ∨ i = 5 ∨ i = 6 ∨ i = 7 by omega) with rfl | rfl | rfl | rfl | rfl | rfl | rfl | rfl
    · have hb : Below W.heap.size W (W.alloc (.cells #[] 25)) := (Below.refl _ _).alloc (Nat.le_refl _) _
      have hE : E0V (.slice (some ⟨W.heap.size, 0, none⟩) 0 0) := ⟨_, rfl⟩
      refine wpAt_of rfl rfl ?_
      simp only [frOf, Act.put]
      go_wp2_with fail
      first | exact ⟨trivial, hE, Trn.ofBelow hb, (hS.next hb).keep (by decide)⟩ | exact ⟨hE, Trn.ofBelow hb, (hS.next hb).keep (by decide)⟩
    · refine wpAt_of rfl rfl ?_
      simp only [frOf, Act.put]
      go_wp2_with fail
      first | exact ⟨trivial, rfl, Trn.refl, hS.keep (by decide)⟩ | exact ⟨rfl, Trn.refl, hS.keep (by decide)⟩
    · have k1 : vals 1 = .pointer (some ⟨w.heap.size, 1, none⟩) := hφ 1 (hd 1 (by decide))
      have c1 := hS.cell mA (i := 1) rfl
      dsimp only at c1
      refine wpAt_of rfl rfl ?_
      simp only [frOf, Act.put]
      go_wp2_with fail
      first | exact ⟨trivial, rfl, Trn.refl, hS.keep (by decide)⟩ | exact ⟨rfl, Trn.refl, hS.keep (by decide)⟩
    · obtain ⟨x, k0⟩ : E0V (vals 0) := hφ 0 (hd 0 (by decide))
      have k2 : vals 2 = .slice (some ⟨b, off, none⟩) 4 cap := hφ 2 (hd 2 (by decide))
      obtain ⟨cp, cells, hap, hB⟩ := append_fresh x b off cap lo hi W (hC.next hS.sub.below)
      have hb : Below W.heap.size W (W.drew.alloc (.cells cells 25)) := ((Below.refl W.heap.size W).drew).alloc (Nat.le_refl _) _
      have hCl : ClV (w.heap.size + 1 + 1) lo hi (.slice (some ⟨W.heap.size, 0, none⟩) 4 cp) (W.drew.alloc (.cells cells 25)) := ⟨_, _, rfl, hB.base hbig⟩
      exact wpAt_append_run rfl rfl rfl (by simp only [frOf, Act.put]; simp) (.tmp 7) (.tmp 9) 23 23 rfl _ _ _ _ (by simp only [frOf, Act.put, List.setIfInBounds_toArray, List.set_cons_succ, List.set_cons_zero]; exact k0) (by simp only [frOf, Act.put, List.setIfInBounds_toArray, List.set_cons_succ, List.set_cons_zero]; exact k2) hap ⟨hCl, Trn.ofBelow hb, (hS.next hb).keep (by decide)⟩
    · refine wpAt_of rfl rfl ?_
      simp only [frOf, Act.put]
      go_wp2_with fail
      first | exact ⟨trivial, rfl, Trn.refl, hS.keep (by decide)⟩ | exact ⟨rfl, Trn.refl, hS.keep (by decide)⟩
    · have k4 : vals 4 = .pointer (some ⟨w.heap.size, 2, none⟩) := hφ 4 (hd 4 (by decide))
      have c2 := hS.cell mA (i := 2) rfl
      have c3 := hS.cell mA (i := 3) rfl
      dsimp only at c2 c3
      refine wpAt_of rfl rfl ?_
      simp only [frOf, Act.put]
      go_wp2_with fail
      first | exact ⟨trivial, rfl, Trn.refl, hS.keep (by decide)⟩ | exact ⟨rfl, Trn.refl, hS.keep (by decide)⟩
    · obtain ⟨g, gc, k3, hB⟩ : ClV (w.heap.size + 1 + 1) lo hi (vals 3) W := hφ 3 (hd 3 (by decide))
      have k5 : vals 5 = .agg #[.int .i64 c, .int .i64 d] := hφ 5 (hd 5 (by decide))
      have hv : StIs (w.heap.size + 1 + 1) true 4 lo hi c d (.agg #[.bool true, .slice (some ⟨g, 0, none⟩) 4 gc, .int .i64 c, .int .i64 d]) W := ⟨_, g, gc, rfl, hB⟩
      refine wpAt_of rfl rfl ?_
      simp only [frOf, Act.put]
      go_wp2_with fail
      first | exact ⟨trivial, hv, Trn.refl, hS.keep (by decide)⟩ | exact ⟨hv, Trn.refl, hS.keep (by decide)⟩
    · obtain ⟨ga, gg, gc, k6, hB⟩ : StIs (w.heap.size + 1 + 1) true 4 lo hi c d (vals 6) W := hφ 6 (hd 6 (by decide))
      have hH := hS.1 hL
      have r0 := hH.cell List.mem_cons_self (i := 0) rfl
      have r1 := hH.cell List.mem_cons_self (i := 1) rfl
      have r2 := hH.cell List.mem_cons_self (i := 2) rfl
      have r3 := hH.cell List.mem_cons_self (i := 3) rfl
      have fr := hH.free _ List.mem_cons_self
      dsimp only at r0 r1 r2 r3 fr
      have hH' := HeldL.putCells (by omega) ne0 [.bool true, .slice ga 4 gc, .int .i64 c, .int .i64 d] 0 [Value.bool false, .slice none 0 0, .int .i64 0, .int .i64 0] W hH (by simp)
      simp only [putL, List.set_cons_succ, List.set_cons_zero] at hH'
      have hT : Trn (w.heap.size + 1) 7 W (setAll (w.heap.size + 1) 0 [.bool true, .slice ga 4 gc, .int .i64 c, .int .i64 d] W) := Trn.setAll
      have hB' := hB.trn (by omega) hT
      refine wpAt_none rfl rfl ?_
      simp only [frOf, Act.put]
      go_wp2_with fail
      have fin : JnS w (w.heap.size + 1) (w.heap.size + 1 + 1) Lr true 4 lo hi c d (upd L 7 true) (setAll (w.heap.size + 1) 0 [.bool true, .slice ga 4 gc, .int .i64 c, .int .i64 d] W) := ⟨(fun e => by rw [upd_same] at e; cases e), fun _ => ⟨ga, gg, gc, hH', hB'⟩⟩
      first | exact ⟨trivial, trivial, hT, fin⟩ | exact ⟨trivial, hT, fin⟩ | exact ⟨hT, fin⟩
  · intro L vals W hall hφ hS
    have k1 : vals 1 = .pointer (some ⟨w.heap.size, 1, none⟩) := hφ 1 (by decide)
    have k2 : vals 2 = .slice (some ⟨b, off, none⟩) 4 cap := hφ 2 (by decide)
    have k4 : vals 4 = .pointer (some ⟨w.heap.size, 2, none⟩) := hφ 4 (by decide)
    have k5 : vals 5 = .agg #[.int .i64 c, .int .i64 d] := hφ 5 (by decide)
    obtain ⟨ga, gg, gc, hH, hB⟩ := hS.2 (hall 7 (by decide))
    simp only [frOf, Act.put, List.setIfInBounds_toArray, List.set_cons_succ, List.set_cons_zero, k1, k2, k4, k5]
    clear k1 k2 k4 k5 hall hφ hS0 hS
    have r0 := hH.cell List.mem_cons_self (i := 0) rfl
    have r1 := hH.cell List.mem_cons_self (i := 1) rfl
    have r2 := hH.cell List.mem_cons_self (i := 2) rfl
    have r3 := hH.cell List.mem_cons_self (i := 3) rfl
    dsimp only at r0 r1 r2 r3
    go_wp2_with fail
    refine bodyPost_ret (v := .agg #[.bool true, .slice ga 4 gc, .int .i64 c, .int .i64 d]) (by simp [results, Try.results26, go_sem, r0, r1, r2, r3]) rfl ⟨_, rfl, ⟨ga, gg, gc, rfl, hB.base (by omega)⟩, hH.below⟩
end Go.Proofs.Ytiehokibfdaleaa
