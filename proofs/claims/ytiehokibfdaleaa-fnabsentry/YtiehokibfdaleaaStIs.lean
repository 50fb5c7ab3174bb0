/- A state that is answered: its list lies in memory of its own. Held against another one, marked, looked for. What copies a list of four bounds; an arrival's set and state. -/
import Derived.Test.YtiehokibfdaleaaArr
import Derived.Test.YtiehokibfdaleaaPens
import Derived.Deep.AppendSrc
import Derived.Lib.SliceRun
namespace Go.Proofs.Ytiehokibfdaleaa
open Go.ChangeShapes Go.WideShapes Go.ChangeAt Go.RowKit
set_option linter.unusedVariables false

/-- A list of bounds in a block of its own, at or behind B. -/
structure BndsIs (B n : Nat) (lo hi : Nat → Int) (a : Option Addr) (g : Nat) (W : World) : Prop where
  own : 0 < n → B ≤ g
  free : 0 < n → ∀ i, W.frozen? ⟨g, i, none⟩ = false
  at_ : BndsAt a g 0 n lo hi W
theorem BndsIs.next {B n : Nat} {lo hi : Nat → Int} {a : Option Addr} {g : Nat} {W W' : World} (h : BndsIs B n lo hi a g W) (hb : Below W.heap.size W W') : BndsIs B n lo hi a g W' :=
  ⟨h.own, fun hn i => (hb.frozen (p := ⟨g, i, none⟩) (h.at_.lt hn)).trans (h.free hn i), h.at_.next hb⟩
theorem BndsIs.base {B C n : Nat} {lo hi : Nat → Int} {a : Option Addr} {g : Nat} {W : World} (h : BndsIs B n lo hi a g W) (hC : C ≤ B) : BndsIs C n lo hi a g W :=
  ⟨fun hn => Nat.le_trans hC (h.own hn), h.free, h.at_⟩
theorem BndsIs.set {B n : Nat} {lo hi : Nat → Int} {a : Option Addr} {g : Nat} {W : World} {G o : Nat} {vs : List Value} (h : BndsIs B n lo hi a g W) (hne : G < B) : BndsIs B n lo hi a g (setAll G o vs W) := by
  by_cases hn : 0 < n
  · have := h.own hn
    exact ⟨h.own, fun _ i => (setAll_frozen _ _ _ _).trans (h.free hn i), h.at_.set (by omega)⟩
  · exact ⟨fun e => absurd e hn, fun e => absurd e hn, ⟨fun e => absurd e hn, fun e => absurd e hn, fun k hk => by omega, fun k hk => by omega⟩⟩
/-- A state, as answered. -/
def StIs (B : Nat) (on : Bool) (n : Nat) (lo hi : Nat → Int) (c d : Int) (v : Value) (W : World) : Prop := ∃ (a : Option Addr) (g cap : Nat), v = .agg #[.bool on, .slice a n cap, .int .i64 c, .int .i64 d] ∧ BndsIs B n lo hi a g W
theorem StIs.next {B : Nat} {on : Bool} {n : Nat} {lo hi : Nat → Int} {c d : Int} {v : Value} {W W' : World} (h : StIs B on n lo hi c d v W) (hb : Below W.heap.size W W') : StIs B on n lo hi c d v W' := by
  obtain ⟨a, g, cap, e, h1⟩ := h
  exact ⟨a, g, cap, e, h1.next hb⟩
theorem BndsIs.nil0 (B : Nat) (lo hi : Nat → Int) (W : World) : BndsIs B 0 lo hi none 0 W := ⟨fun h => absurd h (by omega), fun h => absurd h (by omega), ⟨fun h => absurd h (by omega), fun h => absurd h (by omega), fun k hk => absurd hk (by omega), fun k hk => absurd hk (by omega)⟩⟩
/-- The cells of a list of bounds, to be marked. -/
theorem BndsIs.pen {B n : Nat} {lo hi : Nat → Int} {a : Option Addr} {g : Nat} {W : World} (h : BndsIs B n lo hi a g W) : Pen (fun j => ⟨g, j, none⟩) (n * 2) B W := by
  refine ⟨fun i j _ _ e => by injection e, fun i hi => ⟨h.own (by omega), h.at_.lt (by omega)⟩, fun i hi => ?_, fun i hi => h.free (by omega) i⟩
  rcases (show i % 2 = 0 ∨ i % 2 = 1 by omega) with e | e
  · have := h.at_.lo (i / 2) (by omega)
    rw [Nat.zero_add, show i / 2 * 2 = i by omega] at this
    simp only [this]; rfl
  · have := h.at_.hi (i / 2) (by omega)
    rw [Nat.zero_add, show i / 2 * 2 + 1 = i by omega] at this
    simp only [this]; rfl
/-- An append whose run is known. -/
theorem wpList_append_run {P : Program} {w : World} {ops : Array Oper} {rest : List Oper} {o : Oper} {a : Act} {Q : Exit → Act → World → Prop} (hgd : o.guard = none) (d s : Operand) (dT sT : TypeId)
    (ho : o.op = .call { callee := .builtin .append, args := #[d, s], argTypes := #[dT, sT] }) (x y v' : Value) (w' : World) (hd : a.eval d = x) (hs : a.eval s = y)
    (hrun : ∀ ty, (Builtin.append_ #[dT, sT] ty #[x, y]).run P w = .ok v' w') (h : wpList P ops Q rest (a.put o.dst v') w') : wpList P ops Q (o :: rest) a w := by
  refine wpList_plain hgd fun K hK => ?_
  have hr := hrun o.type
  unfold Oper.wp
  simp [execOp, ho, resolve, invoke, builtin, hd, hs, hr, Result.andThen]
  exact hK _ _ h
set_option maxRecDepth 10000 in
set_option maxHeartbeats 4000000 in
theorem cloneI (b off cap : Nat) (lo hi : Nat → Int) (w : World) (hC : BndsAt (some ⟨b, off, none⟩) b off 4 lo hi w) :
    Calls Try.prog 48 #[.slice (some ⟨b, off, none⟩) 4 cap] w fun e w' => ∃ g c : Nat, e = .returned (.slice (some ⟨g, 0, none⟩) 4 c) ∧ BndsIs w.heap.size 4 lo hi (some ⟨g, 0, none⟩) g w' ∧ Below w.heap.size w w' := by
  have b0 : Below w.heap.size w (w.alloc (.cells #[] 25)) := (Below.refl _ _).alloc (Nat.le_refl _) _
  have hI := hC.next b0
  have s0 := hI.lo 0 (by omega)
  have s1 := hI.hi 0 (by omega)
  have s2 := hI.lo 1 (by omega)
  have s3 := hI.hi 1 (by omega)
  have s4 := hI.lo 2 (by omega)
  have s5 := hI.hi 2 (by omega)
  have s6 := hI.lo 3 (by omega)
  have s7 := hI.hi 3 (by omega)
  simp only [Nat.zero_mul, Nat.one_mul, Nat.reduceMul, Nat.add_assoc, Nat.reduceAdd, Nat.add_zero] at s0 s1 s2 s3 s4 s5 s6 s7
  obtain ⟨i, hi0, hzz⟩ := Option.map_eq_some_iff.1 (show (Try.prog.info? 25).map (fun i => (i.zero, i.size, i.bytes)) = some (some (.agg #[.int .i64 0, .int .i64 0]), 2, 16) by kernel_rfl)
  simp only [Prod.mk.injEq] at hzz
  obtain ⟨hz, hs2, hb16⟩ := hzz
  have hsrc : Src Try.prog i.size 23 (.slice (some ⟨b, off, none⟩) 4 cap) 4 [.int .i64 (lo 0), .int .i64 (hi 0), .int .i64 (lo 1), .int .i64 (hi 1), .int .i64 (lo 2), .int .i64 (hi 2), .int .i64 (lo 3), .int .i64 (hi 3)] (w.alloc (.cells #[] 25)) := by
    rw [hs2]
    exact Src.ofSlice _ Try.underlying23 ⟨b, off, none⟩ 4 cap [.int .i64 (lo 0), .int .i64 (hi 0), .int .i64 (lo 1), .int .i64 (hi 1), .int .i64 (lo 2), .int .i64 (hi 2), .int .i64 (lo 3), .int .i64 (hi 3)] rfl (fun j v hj => by
      rw [addr_mk]
      match j, hj with
      | 0, hj => simp at hj; subst hj; exact s0
      | 1, hj => simp at hj; subst hj; exact s1
      | 2, hj => simp at hj; subst hj; exact s2
      | 3, hj => simp at hj; subst hj; exact s3
      | 4, hj => simp at hj; subst hj; exact s4
      | 5, hj => simp at hj; subst hj; exact s5
      | 6, hj => simp at hj; subst hj; exact s6
      | 7, hj => simp at hj; subst hj; exact s7
      | j + 8, hj => simp at hj) (by simp [Value.oneCell'])
  have hap := fun ty => run_append_grow_src (P := Try.prog) (w.alloc (.cells #[] 25)) 23 23 ty 25 i _ Try.underlying23 hi0 hz (some ⟨w.heap.size, 0, none⟩) 0 0 []
    (run_firstCells_some _ i.size 0 ⟨w.heap.size, 0, none⟩ 0 0 [] (by simp) (fun j u hj => by simp at hj)) (.slice (some ⟨b, off, none⟩) 4 cap) 4 _ hsrc (by decide) (by decide) (by rw [hb16]; decide)
  simp only [List.nil_append, Nat.zero_add] at hap
  obtain ⟨cp, hcp⟩ : ∃ c, c = grownCap (w.alloc (.cells #[] 25)) 4 0 25 := ⟨_, rfl⟩
  rw [← hcp] at hap
  clear hcp hsrc hI s0 s1 s2 s3 s4 s5 s6 s7
  obtain ⟨cells, hcells⟩ : ∃ x : Array Value, x = ([.int .i64 (lo 0), .int .i64 (hi 0), .int .i64 (lo 1), .int .i64 (hi 1), .int .i64 (lo 2), .int .i64 (hi 2), .int .i64 (lo 3), .int .i64 (hi 3)] : List Value).toArray ++ Builtin.zeroCells (Value.cells (.agg #[.int .i64 0, .int .i64 0])) (cp - 4) := ⟨_, rfl⟩
  rw [← hcells] at hap
  have hget : ∀ j v, ([.int .i64 (lo 0), .int .i64 (hi 0), .int .i64 (lo 1), .int .i64 (hi 1), .int .i64 (lo 2), .int .i64 (hi 2), .int .i64 (lo 3), .int .i64 (hi 3)] : List Value)[j]? = some v → cells[j]? = some v := fun j v hj => by
    rw [hcells, Array.getElem?_append_left (by simp; have := (List.getElem?_eq_some_iff.1 hj).1; simpa using this)]
    simpa using hj
  clear hcells
  have hk : Below w.heap.size w ((w.alloc (.cells #[] 25)).drew.alloc (.cells cells 25)) := (b0.drew).alloc (by simp) _
  have hnil : ∀ W, (binOp .eql 23 (.slice (some ⟨b, off, none⟩) 4 cap) (.slice none 0 0)).run Try.prog W = .ok (.bool false) W := fun W => Lib.run_eql_slice_nil W _ _ _ _ _ _ _ Try.underlying23
  go_enter Try.func48, Try.ntmps48
  go_wp2_with (at_builtin; refine wpList_append_run rfl (.tmp 5) (.tmp 6) 23 23 rfl _ _ _ _ rfl rfl hap ?_)
  go_ret
  have hc : ∀ j v, ([.int .i64 (lo 0), .int .i64 (hi 0), .int .i64 (lo 1), .int .i64 (hi 1), .int .i64 (lo 2), .int .i64 (hi 2), .int .i64 (lo 3), .int .i64 (hi 3)] : List Value)[j]? = some v → ((w.alloc (.cells #[] 25)).drew.alloc (.cells cells 25)).cell? ⟨w.heap.size + 1, j, none⟩ = some v := fun j v hj => by
    have e : w.heap.size + 1 = (w.alloc (.cells #[] 25)).drew.heap.size := by simp
    rw [e]
    unfold World.cell?
    rw [heap_alloc_new]
    simpa using hget j v hj
  have hf : ∀ i, ((w.alloc (.cells #[] 25)).drew.alloc (.cells cells 25)).frozen? ⟨w.heap.size + 1, i, none⟩ = false := fun i => by
    have e : w.heap.size + 1 = (w.alloc (.cells #[] 25)).drew.heap.size := by simp
    rw [e]
    exact World.frozen?_alloc_new _ _ _ _
  refine ⟨w.heap.size + 1, cp, rfl, ⟨fun _ => by omega, fun _ => hf, ⟨fun _ => rfl, fun _ => by simp, fun k hk => ?_, fun k hk => ?_⟩⟩, hk⟩
  · rcases (show k = 0 ∨ k = 1 ∨ k = 2 ∨ k = 3 by omega) with rfl | rfl | rfl | rfl
    · exact hc 0 _ rfl
    · exact hc 2 _ rfl
    · exact hc 4 _ rfl
    · exact hc 6 _ rfl
  · rcases (show k = 0 ∨ k = 1 ∨ k = 2 ∨ k = 3 by omega) with rfl | rfl | rfl | rfl
    · exact hc 1 _ rfl
    · exact hc 3 _ rfl
    · exact hc 5 _ rfl
    · exact hc 7 _ rfl
end Go.Proofs.Ytiehokibfdaleaa
