/- The program's InsNext. -/
import Derived.Test.YtafikmgpiklgkaaInsI4
import Derived.Test.YtafikmgpiklgkaaNextS
import Derived.WalkKit
import Derived.ProofKit
import Derived.OpenShut
import Derived.Below
namespace Go.Proofs.Ytafikmgpiklgkaa
open Go.ChangeShapes Go.WideShapes Go.ChangeAt Go.RowKit
theorem ta_same {P : Program} {T : TypeId} {fs : Array Field} (hu : P.underlying T = some (.struct fs)) (v : Value) (xT : TypeId) (w : World) : (Instr.typeAssert (.iface T v) xT T true).run P w = .ok (.tuple #[v, .bool true]) w := by
  simp [Instr.typeAssert, run_underlying hu]
theorem ta_other {P : Program} {T S : TypeId} {fs : Array Field} {z : Value} (hu : P.underlying S = some (.struct fs)) (hz : (P.info? S).map (·.zero) = some (some z)) (hne : (T == S) = false) (v : Value) (xT : TypeId) (w : World) : (Instr.typeAssert (.iface T v) xT S true).run P w = .ok (.tuple #[z, .bool false]) w := by
  obtain ⟨j, hj, hz'⟩ := Option.map_eq_some_iff.1 hz
  simp at hne
  simp [Instr.typeAssert, run_underlying hu, typeInfo, zeroValue, hj, hz', hne]

set_option maxHeartbeats 2000000 in
theorem leads_reckon (o d a b n : Int) (w : World) :
    Calls Try.prog 17 #[.iface 58 (.agg #[.int .i64 o, .int .i64 d, .int .i64 a, .int .i64 b]), .int .i64 n] w fun e w' => ∃ v, e = .returned v ∧ Made w.heap.size v ([n]) w' ∧ Below w.heap.size w w' := by
  have ta0 := fun w => ta_other (T := 58) (S := 52) (z := .agg #[.int .i64 0]) Try.underlying52 (by kernel_rfl) (by decide) (.agg #[.int .i64 o, .int .i64 d, .int .i64 a, .int .i64 b]) 42 w
  have ta1 := fun w => ta_other (T := 58) (S := 54) (z := .agg #[.int .i64 0]) Try.underlying54 (by kernel_rfl) (by decide) (.agg #[.int .i64 o, .int .i64 d, .int .i64 a, .int .i64 b]) 42 w
  have ta2 := fun w => ta_other (T := 58) (S := 56) (z := .agg #[.int .i64 0, .int .i64 0, .int .i64 0, .int .i64 0]) Try.underlying56 (by kernel_rfl) (by decide) (.agg #[.int .i64 o, .int .i64 d, .int .i64 a, .int .i64 b]) 42 w
  go_enter Try.func17, Try.ntmps17
  go_wp2
  go_ret
  refine ⟨_, rfl, Made.one (by constructor <;> first | omega | (simp; try omega)) (by simp [go_sem]) (fun j => by simp [go_sem]), ?_⟩
  repeat (first | exact Below.refl _ _ | refine Below.drew ?_ | refine Below.alloc ?_ (by simp; try omega) _ | refine Below.setCell ?_ (by simp; try omega) _)

set_option maxHeartbeats 2000000 in
theorem leads_any (d l h n : Int) (w : World) :
    Calls Try.prog 17 #[.iface 62 (.agg #[.int .i64 d, .int .i64 l, .int .i64 h]), .int .i64 n] w fun e w' => ∃ v, e = .returned v ∧ Made w.heap.size v ([n]) w' ∧ Below w.heap.size w w' := by
  have ta0 := fun w => ta_other (T := 62) (S := 52) (z := .agg #[.int .i64 0]) Try.underlying52 (by kernel_rfl) (by decide) (.agg #[.int .i64 d, .int .i64 l, .int .i64 h]) 42 w
  have ta1 := fun w => ta_other (T := 62) (S := 54) (z := .agg #[.int .i64 0]) Try.underlying54 (by kernel_rfl) (by decide) (.agg #[.int .i64 d, .int .i64 l, .int .i64 h]) 42 w
  have ta2 := fun w => ta_other (T := 62) (S := 56) (z := .agg #[.int .i64 0, .int .i64 0, .int .i64 0, .int .i64 0]) Try.underlying56 (by kernel_rfl) (by decide) (.agg #[.int .i64 d, .int .i64 l, .int .i64 h]) 42 w
  go_enter Try.func17, Try.ntmps17
  go_wp2
  go_ret
  refine ⟨_, rfl, Made.one (by constructor <;> first | omega | (simp; try omega)) (by simp [go_sem]) (fun j => by simp [go_sem]), ?_⟩
  repeat (first | exact Below.refl _ _ | refine Below.drew ?_ | refine Below.alloc ?_ (by simp; try omega) _ | refine Below.setCell ?_ (by simp; try omega) _)

set_option maxHeartbeats 2000000 in
theorem leads_load (d a n : Int) (w : World) :
    Calls Try.prog 17 #[.iface 64 (.agg #[.int .i64 d, .int .i64 a]), .int .i64 n] w fun e w' => ∃ v, e = .returned v ∧ Made w.heap.size v ([n]) w' ∧ Below w.heap.size w w' := by
  have ta0 := fun w => ta_other (T := 64) (S := 52) (z := .agg #[.int .i64 0]) Try.underlying52 (by kernel_rfl) (by decide) (.agg #[.int .i64 d, .int .i64 a]) 42 w
  have ta1 := fun w => ta_other (T := 64) (S := 54) (z := .agg #[.int .i64 0]) Try.underlying54 (by kernel_rfl) (by decide) (.agg #[.int .i64 d, .int .i64 a]) 42 w
  have ta2 := fun w => ta_other (T := 64) (S := 56) (z := .agg #[.int .i64 0, .int .i64 0, .int .i64 0, .int .i64 0]) Try.underlying56 (by kernel_rfl) (by decide) (.agg #[.int .i64 d, .int .i64 a]) 42 w
  go_enter Try.func17, Try.ntmps17
  go_wp2
  go_ret
  refine ⟨_, rfl, Made.one (by constructor <;> first | omega | (simp; try omega)) (by simp [go_sem]) (fun j => by simp [go_sem]), ?_⟩
  repeat (first | exact Below.refl _ _ | refine Below.drew ?_ | refine Below.alloc ?_ (by simp; try omega) _ | refine Below.setCell ?_ (by simp; try omega) _)

set_option maxHeartbeats 2000000 in
theorem leads_store (a b n : Int) (w : World) :
    Calls Try.prog 17 #[.iface 66 (.agg #[.int .i64 a, .int .i64 b]), .int .i64 n] w fun e w' => ∃ v, e = .returned v ∧ Made w.heap.size v ([n]) w' ∧ Below w.heap.size w w' := by
  have ta0 := fun w => ta_other (T := 66) (S := 52) (z := .agg #[.int .i64 0]) Try.underlying52 (by kernel_rfl) (by decide) (.agg #[.int .i64 a, .int .i64 b]) 42 w
  have ta1 := fun w => ta_other (T := 66) (S := 54) (z := .agg #[.int .i64 0]) Try.underlying54 (by kernel_rfl) (by decide) (.agg #[.int .i64 a, .int .i64 b]) 42 w
  have ta2 := fun w => ta_other (T := 66) (S := 56) (z := .agg #[.int .i64 0, .int .i64 0, .int .i64 0, .int .i64 0]) Try.underlying56 (by kernel_rfl) (by decide) (.agg #[.int .i64 a, .int .i64 b]) 42 w
  go_enter Try.func17, Try.ntmps17
  go_wp2
  go_ret
  refine ⟨_, rfl, Made.one (by constructor <;> first | omega | (simp; try omega)) (by simp [go_sem]) (fun j => by simp [go_sem]), ?_⟩
  repeat (first | exact Below.refl _ _ | refine Below.drew ?_ | refine Below.alloc ?_ (by simp; try omega) _ | refine Below.setCell ?_ (by simp; try omega) _)

set_option maxHeartbeats 2000000 in
theorem leads_if_lt (a r b t n : Int) (w : World) (h : t < n) :
    Calls Try.prog 17 #[.iface 56 (.agg #[.int .i64 a, .int .i64 r, .int .i64 b, .int .i64 t]), .int .i64 n] w fun e w' => ∃ v, e = .returned v ∧ Made w.heap.size v ([t, n]) w' ∧ Below w.heap.size w w' := by
  have ta0 := fun w => ta_other (T := 56) (S := 52) (z := .agg #[.int .i64 0]) Try.underlying52 (by kernel_rfl) (by decide) (.agg #[.int .i64 a, .int .i64 r, .int .i64 b, .int .i64 t]) 42 w
  have ta1 := fun w => ta_other (T := 56) (S := 54) (z := .agg #[.int .i64 0]) Try.underlying54 (by kernel_rfl) (by decide) (.agg #[.int .i64 a, .int .i64 r, .int .i64 b, .int .i64 t]) 42 w
  have ta2 := fun w => ta_same Try.underlying56 (.agg #[.int .i64 a, .int .i64 r, .int .i64 b, .int .i64 t]) 42 w
  have h1 : ¬ t = n := by omega
  go_enter Try.func17, Try.ntmps17
  go_wp2
  go_ret
  refine ⟨_, rfl, Made.two (by constructor <;> first | omega | (simp; try omega)) (by simp [go_sem]) (by simp [go_sem]) (fun j => by simp [go_sem]), ?_⟩
  repeat (first | exact Below.refl _ _ | refine Below.drew ?_ | refine Below.alloc ?_ (by simp; try omega) _ | refine Below.setCell ?_ (by simp; try omega) _)

set_option maxHeartbeats 2000000 in
theorem leads_if_gt (a r b t n : Int) (w : World) (h : n < t) :
    Calls Try.prog 17 #[.iface 56 (.agg #[.int .i64 a, .int .i64 r, .int .i64 b, .int .i64 t]), .int .i64 n] w fun e w' => ∃ v, e = .returned v ∧ Made w.heap.size v ([n, t]) w' ∧ Below w.heap.size w w' := by
  have ta0 := fun w => ta_other (T := 56) (S := 52) (z := .agg #[.int .i64 0]) Try.underlying52 (by kernel_rfl) (by decide) (.agg #[.int .i64 a, .int .i64 r, .int .i64 b, .int .i64 t]) 42 w
  have ta1 := fun w => ta_other (T := 56) (S := 54) (z := .agg #[.int .i64 0]) Try.underlying54 (by kernel_rfl) (by decide) (.agg #[.int .i64 a, .int .i64 r, .int .i64 b, .int .i64 t]) 42 w
  have ta2 := fun w => ta_same Try.underlying56 (.agg #[.int .i64 a, .int .i64 r, .int .i64 b, .int .i64 t]) 42 w
  have h1 : ¬ t = n := by omega
  go_enter Try.func17, Try.ntmps17
  go_wp2
  go_ret
  refine ⟨_, rfl, Made.two (by constructor <;> first | omega | (simp; try omega)) (by simp [go_sem]) (by simp [go_sem]) (fun j => by simp [go_sem]), ?_⟩
  repeat (first | exact Below.refl _ _ | refine Below.drew ?_ | refine Below.alloc ?_ (by simp; try omega) _ | refine Below.setCell ?_ (by simp; try omega) _)

set_option maxHeartbeats 2000000 in
theorem leads_if_eq (a r b t n : Int) (w : World) (h : t = n) :
    Calls Try.prog 17 #[.iface 56 (.agg #[.int .i64 a, .int .i64 r, .int .i64 b, .int .i64 t]), .int .i64 n] w fun e w' => ∃ v, e = .returned v ∧ Made w.heap.size v ([n]) w' ∧ Below w.heap.size w w' := by
  have ta0 := fun w => ta_other (T := 56) (S := 52) (z := .agg #[.int .i64 0]) Try.underlying52 (by kernel_rfl) (by decide) (.agg #[.int .i64 a, .int .i64 r, .int .i64 b, .int .i64 t]) 42 w
  have ta1 := fun w => ta_other (T := 56) (S := 54) (z := .agg #[.int .i64 0]) Try.underlying54 (by kernel_rfl) (by decide) (.agg #[.int .i64 a, .int .i64 r, .int .i64 b, .int .i64 t]) 42 w
  have ta2 := fun w => ta_same Try.underlying56 (.agg #[.int .i64 a, .int .i64 r, .int .i64 b, .int .i64 t]) 42 w
  subst h
  go_enter Try.func17, Try.ntmps17
  go_wp2
  go_ret
  refine ⟨_, rfl, Made.one (by constructor <;> first | omega | (simp; try omega)) (by simp [go_sem]) (fun j => by simp [go_sem]), ?_⟩
  repeat (first | exact Below.refl _ _ | refine Below.drew ?_ | refine Below.alloc ?_ (by simp; try omega) _ | refine Below.setCell ?_ (by simp; try omega) _)

set_option maxHeartbeats 2000000 in
theorem leads_jump (t n : Int) (w : World) :
    Calls Try.prog 17 #[.iface 54 (.agg #[.int .i64 t]), .int .i64 n] w fun e w' => ∃ v, e = .returned v ∧ Made w.heap.size v ([t]) w' ∧ Below w.heap.size w w' := by
  have ta0 := fun w => ta_other (T := 54) (S := 52) (z := .agg #[.int .i64 0]) Try.underlying52 (by kernel_rfl) (by decide) (.agg #[.int .i64 t]) 42 w
  have ta1 := fun w => ta_same Try.underlying54 (.agg #[.int .i64 t]) 42 w
  go_enter Try.func17, Try.ntmps17
  go_wp2
  go_ret
  refine ⟨_, rfl, Made.one (by constructor <;> first | omega | (simp; try omega)) (by simp [go_sem]) (fun j => by simp [go_sem]), ?_⟩
  repeat (first | exact Below.refl _ _ | refine Below.drew ?_ | refine Below.alloc ?_ (by simp; try omega) _ | refine Below.setCell ?_ (by simp; try omega) _)

set_option maxHeartbeats 2000000 in
theorem leads_call (d t a n : Int) (w : World) :
    Calls Try.prog 17 #[.iface 68 (.agg #[.int .i64 d, .int .i64 t, .int .i64 a]), .int .i64 n] w fun e w' => ∃ v, e = .returned v ∧ Made w.heap.size v ([n]) w' ∧ Below w.heap.size w w' := by
  have ta0 := fun w => ta_other (T := 68) (S := 52) (z := .agg #[.int .i64 0]) Try.underlying52 (by kernel_rfl) (by decide) (.agg #[.int .i64 d, .int .i64 t, .int .i64 a]) 42 w
  have ta1 := fun w => ta_other (T := 68) (S := 54) (z := .agg #[.int .i64 0]) Try.underlying54 (by kernel_rfl) (by decide) (.agg #[.int .i64 d, .int .i64 t, .int .i64 a]) 42 w
  have ta2 := fun w => ta_other (T := 68) (S := 56) (z := .agg #[.int .i64 0, .int .i64 0, .int .i64 0, .int .i64 0]) Try.underlying56 (by kernel_rfl) (by decide) (.agg #[.int .i64 d, .int .i64 t, .int .i64 a]) 42 w
  go_enter Try.func17, Try.ntmps17
  go_wp2
  go_ret
  refine ⟨_, rfl, Made.one (by constructor <;> first | omega | (simp; try omega)) (by simp [go_sem]) (fun j => by simp [go_sem]), ?_⟩
  repeat (first | exact Below.refl _ _ | refine Below.drew ?_ | refine Below.alloc ?_ (by simp; try omega) _ | refine Below.setCell ?_ (by simp; try omega) _)

set_option maxHeartbeats 2000000 in
theorem leads_assert (a r b n : Int) (w : World) :
    Calls Try.prog 17 #[.iface 70 (.agg #[.int .i64 a, .int .i64 r, .int .i64 b]), .int .i64 n] w fun e w' => ∃ v, e = .returned v ∧ Made w.heap.size v ([n]) w' ∧ Below w.heap.size w w' := by
  have ta0 := fun w => ta_other (T := 70) (S := 52) (z := .agg #[.int .i64 0]) Try.underlying52 (by kernel_rfl) (by decide) (.agg #[.int .i64 a, .int .i64 r, .int .i64 b]) 42 w
  have ta1 := fun w => ta_other (T := 70) (S := 54) (z := .agg #[.int .i64 0]) Try.underlying54 (by kernel_rfl) (by decide) (.agg #[.int .i64 a, .int .i64 r, .int .i64 b]) 42 w
  have ta2 := fun w => ta_other (T := 70) (S := 56) (z := .agg #[.int .i64 0, .int .i64 0, .int .i64 0, .int .i64 0]) Try.underlying56 (by kernel_rfl) (by decide) (.agg #[.int .i64 a, .int .i64 r, .int .i64 b]) 42 w
  go_enter Try.func17, Try.ntmps17
  go_wp2
  go_ret
  refine ⟨_, rfl, Made.one (by constructor <;> first | omega | (simp; try omega)) (by simp [go_sem]) (fun j => by simp [go_sem]), ?_⟩
  repeat (first | exact Below.refl _ _ | refine Below.drew ?_ | refine Below.alloc ?_ (by simp; try omega) _ | refine Below.setCell ?_ (by simp; try omega) _)

set_option maxHeartbeats 2000000 in
theorem leads_ret (a n : Int) (w : World) :
    Calls Try.prog 17 #[.iface 52 (.agg #[.int .i64 a]), .int .i64 n] w fun e w' => ∃ v, e = .returned v ∧ Made w.heap.size v ([]) w' ∧ Below w.heap.size w w' := by
  have ta0 := fun w => ta_same Try.underlying52 (.agg #[.int .i64 a]) 42 w
  go_enter Try.func17, Try.ntmps17
  go_wp2
  go_ret
  refine ⟨_, rfl, Made.nil _ _ _ _, ?_⟩
  repeat (first | exact Below.refl _ _ | refine Below.drew ?_ | refine Below.alloc ?_ (by simp; try omega) _ | refine Below.setCell ?_ (by simp; try omega) _)

set_option maxRecDepth 10000 in
set_option maxHeartbeats 4000000 in
theorem nextI (o d a b r l h t n : Int) (w : World) :
    Calls Try.prog 5 #[.agg #[.int .i64 o, .int .i64 d, .int .i64 a, .int .i64 b, .int .i64 r, .int .i64 l, .int .i64 h, .int .i64 t], .int .i64 n] w fun e w' => ∃ v, e = .returned v ∧ Made w.heap.size v (insNext o d a b r l h t n) w' ∧ Below w.heap.size w w' := by
  have b0 : Below w.heap.size w (w.alloc (.cells #[.int .i64 o, .int .i64 d, .int .i64 a, .int .i64 b, .int .i64 r, .int .i64 l, .int .i64 h, .int .i64 t] 24)) := (Below.refl _ _).alloc (Nat.le_refl _) _
  go_enter Try.func5, Try.ntmps5
  go_wp2_with fail
  refine (insOkI _ _ _ _ _ _ _ _ _ _ _).mono ?_
  rintro e w1 ⟨rfl, hb⟩
  have b1 := b0.trans (hb.mono (by simp))
  obtain ⟨hc, hf⟩ := bcell hb
  have hs : w.heap.size < w1.heap.size := by have := hb.size; simp at this; omega
  have hp : placeB n 10 = inB n 0 9 := by simp only [placeB, inB]; congr 1; simp; omega
  cases hk : insOk o d a b r l h t 4 10
  · go_wp2_with fail
    go_ret
    refine ⟨_, rfl, ?_, ?_⟩
    · simp only [insNext, hk, Bool.false_and, Bool.false_eq_true, if_false]; exact Made.nil _ _ _ _
    · repeat (first | exact b2 | exact b1 | exact Below.refl _ _ | refine Below.drew ?_ | refine Below.alloc ?_ (by first | exact b2.size | exact b1.size | (simp; try omega)) _)
  cases hn : inB n 0 9
  · rw [hn] at hp
    go_wp2_with (go_at_call 16; refine (placeI _ _ _).mono ?_; rintro e w' ⟨rfl, rfl⟩; rw [hp])
    go_ret
    refine ⟨_, rfl, ?_, ?_⟩
    · simp only [insNext, hk, hn, Bool.and_false, Bool.false_eq_true, if_false]; exact Made.nil _ _ _ _
    · repeat (first | exact b2 | exact b1 | exact Below.refl _ _ | refine Below.drew ?_ | refine Below.alloc ?_ (by first | exact b2.size | exact b1.size | (simp; try omega)) _)
  rw [hn] at hp
  have hnn : 0 ≤ n ∧ n ≤ 9 := by simpa [inB] using hn
  have hw : IntKind.i64.wrap (n + 1) = n + 1 := i64_at (by omega) (by omega)
  have E : Hid (insNext o d a b r l h t n = nextL o t (n + 1)) := by show insNext o d a b r l h t n = nextL o t (n + 1); simp [insNext, hk, hn]
  have g0 : inB o 1 12 = true := by
    cases g : inB o 1 12
    · simp [insOk, form_out g] at hk
    · rfl
  have ho' : o = 1 ∨ o = 2 ∨ o = 3 ∨ o = 4 ∨ o = 5 ∨ o = 6 ∨ o = 7 ∨ o = 8 ∨ o = 9 ∨ o = 10 ∨ o = 11 ∨ o = 12 := by simp [inB] at g0; omega
  clear hk g0 hn
  rcases ho' with rfl | rfl | rfl | rfl | rfl | rfl | rfl | rfl | rfl | rfl | rfl | rfl
  · skip
    go_wp2_with (go_at_call 16; refine (placeI _ _ _).mono ?_; rintro e w' ⟨rfl, rfl⟩; rw [hp])
    refine (stepOfI_1 _ _ _ _ _ _ _ _).mono ?_
    rintro e w2 ⟨rfl, hb2⟩
    go_wp2_with fail
    refine (leads_reckon _ _ _ _ _ _).mono ?_
    rintro e w3 ⟨v, rfl, hm, hb3⟩
    go_wp2_with fail
    go_ret
    refine ⟨_, rfl, ?_, below_tr (below_tr b1 hb2) hb3⟩
    rw [E.out]
    unfold nextL; rw [if_neg (by omega), if_neg (by omega), if_neg (by omega)]
    exact hm.weaken (below_tr b1 hb2).size
  · skip
    go_wp2_with (go_at_call 16; refine (placeI _ _ _).mono ?_; rintro e w' ⟨rfl, rfl⟩; rw [hp])
    refine (stepOfI_2 _ _ _ _ _ _ _ _).mono ?_
    rintro e w2 ⟨rfl, hb2⟩
    go_wp2_with fail
    refine (leads_reckon _ _ _ _ _ _).mono ?_
    rintro e w3 ⟨v, rfl, hm, hb3⟩
    go_wp2_with fail
    go_ret
    refine ⟨_, rfl, ?_, below_tr (below_tr b1 hb2) hb3⟩
    rw [E.out]
    unfold nextL; rw [if_neg (by omega), if_neg (by omega), if_neg (by omega)]
    exact hm.weaken (below_tr b1 hb2).size
  · skip
    go_wp2_with (go_at_call 16; refine (placeI _ _ _).mono ?_; rintro e w' ⟨rfl, rfl⟩; rw [hp])
    refine (stepOfI_3 _ _ _ _ _ _ _ _).mono ?_
    rintro e w2 ⟨rfl, hb2⟩
    go_wp2_with fail
    refine (leads_reckon _ _ _ _ _ _).mono ?_
    rintro e w3 ⟨v, rfl, hm, hb3⟩
    go_wp2_with fail
    go_ret
    refine ⟨_, rfl, ?_, below_tr (below_tr b1 hb2) hb3⟩
    rw [E.out]
    unfold nextL; rw [if_neg (by omega), if_neg (by omega), if_neg (by omega)]
    exact hm.weaken (below_tr b1 hb2).size
  · skip
    go_wp2_with (go_at_call 16; refine (placeI _ _ _).mono ?_; rintro e w' ⟨rfl, rfl⟩; rw [hp])
    refine (stepOfI_4 _ _ _ _ _ _ _ _).mono ?_
    rintro e w2 ⟨rfl, hb2⟩
    go_wp2_with fail
    refine (leads_reckon _ _ _ _ _ _).mono ?_
    rintro e w3 ⟨v, rfl, hm, hb3⟩
    go_wp2_with fail
    go_ret
    refine ⟨_, rfl, ?_, below_tr (below_tr b1 hb2) hb3⟩
    rw [E.out]
    unfold nextL; rw [if_neg (by omega), if_neg (by omega), if_neg (by omega)]
    exact hm.weaken (below_tr b1 hb2).size
  · skip
    go_wp2_with (go_at_call 16; refine (placeI _ _ _).mono ?_; rintro e w' ⟨rfl, rfl⟩; rw [hp])
    refine (stepOfI_5 _ _ _ _ _ _ _ _).mono ?_
    rintro e w2 ⟨rfl, hb2⟩
    go_wp2_with fail
    refine (leads_any _ _ _ _ _).mono ?_
    rintro e w3 ⟨v, rfl, hm, hb3⟩
    go_wp2_with fail
    go_ret
    refine ⟨_, rfl, ?_, below_tr (below_tr b1 hb2) hb3⟩
    rw [E.out]
    unfold nextL; rw [if_neg (by omega), if_neg (by omega), if_neg (by omega)]
    exact hm.weaken (below_tr b1 hb2).size
  · skip
    go_wp2_with (go_at_call 16; refine (placeI _ _ _).mono ?_; rintro e w' ⟨rfl, rfl⟩; rw [hp])
    refine (stepOfI_6 _ _ _ _ _ _ _ _).mono ?_
    rintro e w2 ⟨rfl, hb2⟩
    go_wp2_with fail
    refine (leads_load _ _ _ _).mono ?_
    rintro e w3 ⟨v, rfl, hm, hb3⟩
    go_wp2_with fail
    go_ret
    refine ⟨_, rfl, ?_, below_tr (below_tr b1 hb2) hb3⟩
    rw [E.out]
    unfold nextL; rw [if_neg (by omega), if_neg (by omega), if_neg (by omega)]
    exact hm.weaken (below_tr b1 hb2).size
  · skip
    go_wp2_with (go_at_call 16; refine (placeI _ _ _).mono ?_; rintro e w' ⟨rfl, rfl⟩; rw [hp])
    refine (stepOfI_7 _ _ _ _ _ _ _ _).mono ?_
    rintro e w2 ⟨rfl, hb2⟩
    go_wp2_with fail
    refine (leads_store _ _ _ _).mono ?_
    rintro e w3 ⟨v, rfl, hm, hb3⟩
    go_wp2_with fail
    go_ret
    refine ⟨_, rfl, ?_, below_tr (below_tr b1 hb2) hb3⟩
    rw [E.out]
    unfold nextL; rw [if_neg (by omega), if_neg (by omega), if_neg (by omega)]
    exact hm.weaken (below_tr b1 hb2).size
  · skip
    go_wp2_with (go_at_call 16; refine (placeI _ _ _).mono ?_; rintro e w' ⟨rfl, rfl⟩; rw [hp])
    refine (stepOfI_8 _ _ _ _ _ _ _ _).mono ?_
    rintro e w2 ⟨rfl, hb2⟩
    go_wp2_with fail
    rcases Int.lt_trichotomy t (n + 1) with h | h | h
    · skip
      refine (leads_if_lt _ _ _ _ _ _ h).mono ?_
      rintro e w3 ⟨v, rfl, hm, hb3⟩
      go_wp2_with fail
      go_ret
      refine ⟨_, rfl, ?_, below_tr (below_tr b1 hb2) hb3⟩
      rw [E.out]
      unfold nextL; rw [if_neg (by omega), if_neg (by omega), if_pos rfl, if_pos (show t < n + 1 by omega)]
      exact hm.weaken (below_tr b1 hb2).size
    · skip
      refine (leads_if_eq _ _ _ _ _ _ h).mono ?_
      rintro e w3 ⟨v, rfl, hm, hb3⟩
      go_wp2_with fail
      go_ret
      refine ⟨_, rfl, ?_, below_tr (below_tr b1 hb2) hb3⟩
      rw [E.out]
      unfold nextL; rw [if_neg (by omega), if_neg (by omega), if_pos rfl, if_neg (show ¬ t < n + 1 by omega), if_neg (show ¬ n + 1 < t by omega)]
      exact hm.weaken (below_tr b1 hb2).size
    · skip
      refine (leads_if_gt _ _ _ _ _ _ h).mono ?_
      rintro e w3 ⟨v, rfl, hm, hb3⟩
      go_wp2_with fail
      go_ret
      refine ⟨_, rfl, ?_, below_tr (below_tr b1 hb2) hb3⟩
      rw [E.out]
      unfold nextL; rw [if_neg (by omega), if_neg (by omega), if_pos rfl, if_neg (show ¬ t < n + 1 by omega), if_pos (show n + 1 < t by omega)]
      exact hm.weaken (below_tr b1 hb2).size
  · skip
    go_wp2_with (go_at_call 16; refine (placeI _ _ _).mono ?_; rintro e w' ⟨rfl, rfl⟩; rw [hp])
    refine (stepOfI_9 _ _ _ _ _ _ _ _).mono ?_
    rintro e w2 ⟨rfl, hb2⟩
    go_wp2_with fail
    refine (leads_jump _ _ _).mono ?_
    rintro e w3 ⟨v, rfl, hm, hb3⟩
    go_wp2_with fail
    go_ret
    refine ⟨_, rfl, ?_, below_tr (below_tr b1 hb2) hb3⟩
    rw [E.out]
    unfold nextL; rw [if_neg (by omega), if_pos rfl]
    exact hm.weaken (below_tr b1 hb2).size
  · skip
    go_wp2_with (go_at_call 16; refine (placeI _ _ _).mono ?_; rintro e w' ⟨rfl, rfl⟩; rw [hp])
    refine (stepOfI_10 _ _ _ _ _ _ _ _).mono ?_
    rintro e w2 ⟨rfl, hb2⟩
    go_wp2_with fail
    refine (leads_call _ _ _ _ _).mono ?_
    rintro e w3 ⟨v, rfl, hm, hb3⟩
    go_wp2_with fail
    go_ret
    refine ⟨_, rfl, ?_, below_tr (below_tr b1 hb2) hb3⟩
    rw [E.out]
    unfold nextL; rw [if_neg (by omega), if_neg (by omega), if_neg (by omega)]
    exact hm.weaken (below_tr b1 hb2).size
  · skip
    go_wp2_with (go_at_call 16; refine (placeI _ _ _).mono ?_; rintro e w' ⟨rfl, rfl⟩; rw [hp])
    refine (stepOfI_11 _ _ _ _ _ _ _ _).mono ?_
    rintro e w2 ⟨rfl, hb2⟩
    go_wp2_with fail
    refine (leads_assert _ _ _ _ _).mono ?_
    rintro e w3 ⟨v, rfl, hm, hb3⟩
    go_wp2_with fail
    go_ret
    refine ⟨_, rfl, ?_, below_tr (below_tr b1 hb2) hb3⟩
    rw [E.out]
    unfold nextL; rw [if_neg (by omega), if_neg (by omega), if_neg (by omega)]
    exact hm.weaken (below_tr b1 hb2).size
  · skip
    go_wp2_with (go_at_call 16; refine (placeI _ _ _).mono ?_; rintro e w' ⟨rfl, rfl⟩; rw [hp])
    refine (stepOfI_12 _ _ _ _ _ _ _ _).mono ?_
    rintro e w2 ⟨rfl, hb2⟩
    go_wp2_with fail
    refine (leads_ret _ _ _).mono ?_
    rintro e w3 ⟨v, rfl, hm, hb3⟩
    go_wp2_with fail
    go_ret
    refine ⟨_, rfl, ?_, below_tr (below_tr b1 hb2) hb3⟩
    rw [E.out]
    unfold nextL; rw [if_pos rfl]
    exact hm.weaken (below_tr b1 hb2).size
end Go.Proofs.Ytafikmgpiklgkaa
