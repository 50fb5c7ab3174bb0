/- Whatever bytes are handed in, the law FnNumDo returns true: of the drawn op and ints NumDo answers as the model's; sums and differences undo each other; a quotient leaves less than the divisor, on the side of the first number. No condition; the row says of itself 'unfollowed' and 'recurses' (method values in a list), and bears no record. -/
import Derived.Test.YtgejbdblieohjaaNums
import Derived.Test.YtgejbdblieohjaaDo
import Derived.Test.YtgejbdblieohjaaDraws
import Derived.WalkKit
import Derived.ProofKit
import Derived.OpenShut
import Derived.ShutString
import Derived.ChangeOld
import Derived.Below
namespace Go.Proofs.Ytgejbdblieohjaa.fnNumDo
open Go.ChangeShapes Go.WideShapes Go.ChangeAt Go.RowKit
open Go.ChangeMaps (open_string shut_string)
set_option linter.unusedVariables false

theorem own : ownKnob Try.prog.godebug = none := by kernel_rfl
theorem laidOut : laidOutB Try.prog = true := by kernel_rfl

theorem ok_wr (n : Int) : okB (wr n) = true := by
  unfold okB
  simp only [Bool.and_eq_true, decide_eq_true_eq]
  unfold wr
  omega
theorem ok_doN (op a b : Int) (h : doOk op a b = true) : okB (doN op a b) = true := by
  unfold doN
  rw [if_pos h]
  repeat' split
  all_goals exact ok_wr _
theorem do_no {op a b : Int} (h : doOk op a b = false) : doN op a b = 0 := by unfold doN; rw [h]; rfl
theorem ok_add {a b : Int} (ha : okB a = true) (hb : okB b = true) : doOk 1 a b = true := by simp [doOk, ha, hb]
theorem ok_sub {a b : Int} (ha : okB a = true) (hb : okB b = true) : doOk 2 a b = true := by simp [doOk, ha, hb]
theorem n_add {a b : Int} (ha : okB a = true) (hb : okB b = true) : doN 1 a b = wr (a + b) := by unfold doN; rw [if_pos (ok_add ha hb)]; rfl
theorem n_sub {a b : Int} (ha : okB a = true) (hb : okB b = true) : doN 2 a b = wr (a - b) := by unfold doN; rw [if_pos (ok_sub ha hb)]; rfl
theorem back1 {a b : Int} (ha : okB a = true) (hb : okB b = true) : doN 2 (doN 1 a b) b = a := by
  have := ok_lo ha; have := ok_hi ha
  rw [n_add ha hb, n_sub (ok_wr _) hb]
  unfold wr
  omega
theorem back2 {a b : Int} (ha : okB a = true) (hb : okB b = true) : doN 1 (doN 2 a b) b = a := by
  have := ok_lo ha; have := ok_hi ha
  rw [n_sub ha hb, n_add (ok_wr _) hb]
  unfold wr
  omega
theorem ok_div {a b : Int} (ha : okB a = true) (hb : okB b = true) : doOk 4 a b = (b != 0) := by
  by_cases h : b = 0
  · subst h; simp [doOk]
  · have : (b != 0) = true := by simpa using h
    rw [this]; simp [doOk, ha, hb, h]

/-- What a quotient leaves. -/
theorem quo {a b : Int} (ha : okB a = true) (hb : okB b = true) (h0 : b ≠ 0) (hm : ¬ (a = -32768 ∧ b = -1)) :
    doN 4 a b = a.tdiv b ∧ -32768 ≤ a.tdiv b ∧ a.tdiv b ≤ 32767 ∧ a - b * a.tdiv b = a.tmod b := by
  have a1 := ok_lo ha; have a2 := ok_hi ha
  have hq : -32768 ≤ a.tdiv b ∧ a.tdiv b ≤ 32767 := by
    have e : (a.tdiv b).natAbs = a.natAbs / b.natAbs := Int.natAbs_tdiv a b
    have l : a.natAbs / b.natAbs ≤ a.natAbs := Nat.div_le_self _ _
    by_cases h32 : a = -32768
    · subst h32
      by_cases hb1 : b.natAbs = 1
      · obtain rfl : b = 1 := by omega
        decide
      · have : (-32768 : Int).natAbs / b.natAbs ≤ 32768 / 2 := Nat.div_le_div_left (by omega) (by omega)
        omega
    · omega
  have hd : doN 4 a b = wr (a.tdiv b) := by
    have h : doOk 4 a b = true := by rw [ok_div ha hb]; simpa using h0
    unfold doN; rw [if_pos h]; rfl
  refine ⟨by rw [hd]; unfold wr; omega, hq.1, hq.2, ?_⟩
  have := Int.tmod_add_mul_tdiv a b
  omega
theorem left_lt (a b : Int) (h0 : b ≠ 0) : (a.tmod b).natAbs < b.natAbs := by
  rw [Int.natAbs_tmod]
  exact Nat.mod_lt _ (by omega)
theorem left_sq (a b : Int) (h0 : b ≠ 0) : a.tmod b * a.tmod b < b * b := by
  have h := left_lt a b h0
  have : (a.tmod b).natAbs * (a.tmod b).natAbs < b.natAbs * b.natAbs := Nat.mul_self_lt_mul_self h
  have e1 : ((a.tmod b).natAbs : Int) * ((a.tmod b).natAbs : Int) = a.tmod b * a.tmod b := Int.natAbs_mul_self
  have e2 : (b.natAbs : Int) * (b.natAbs : Int) = b * b := Int.natAbs_mul_self
  rw [← e1, ← e2, ← Int.natCast_mul, ← Int.natCast_mul]
  omega
theorem sq_bd (r : Int) (h : r.natAbs ≤ 32768) : 0 ≤ r * r ∧ r * r ≤ 1073741824 := by
  have e : (r.natAbs : Int) * (r.natAbs : Int) = r * r := Int.natAbs_mul_self
  have : r.natAbs * r.natAbs ≤ 32768 * 32768 := Nat.mul_le_mul h h
  have c : ((r.natAbs * r.natAbs : Nat) : Int) = r * r := by rw [Int.natCast_mul]; exact e
  rw [← c]
  omega
theorem left_sign (a b : Int) (h : a.tmod b ≠ 0) : (0 < a.tmod b ↔ 0 < a) := by
  constructor
  · intro hp
    rcases Int.lt_trichotomy a 0 with ha | ha | ha
    · have : a.tmod b ≤ 0 := by
        have e : a.tmod b = -((-a).tmod b) := by rw [Int.neg_tmod]; omega
        have : 0 ≤ (-a).tmod b := Int.tmod_nonneg _ (by omega)
        omega
      omega
    · subst ha; simp at h
    · exact ha
  · intro ha
    have : 0 ≤ a.tmod b := Int.tmod_nonneg _ (by omega)
    omega

theorem owOk (w : World) : Calls Try.prog 14 #[] w fun e w' => e = .returned (.bool true) ∧ w' = w := by
  go_enter Try.func14, Try.ntmps14
  go_wp2_with (go_at_call 8; refine (okI _ _).mono ?_; rintro e w' ⟨rfl, rfl⟩)
  go_ret
  exact ⟨rfl, rfl⟩

theorem walk (a0 : Option Addr) (len0 cap0 : Nat) (z0 : Nat → Int) (w : World) (hz0 : ∀ i, 0 ≤ z0 i ∧ z0 i ≤ 255) (r0 : Bytes w a0 len0 cap0 z0) :
    Calls Try.prog 4 #[.slice a0 len0 cap0] w fun e w' => e = .returned (.bool true) ∧ Below w.heap.size w w' := by
  by_cases hl : len0 ≤ 1048576
  case neg =>
    have hi : (1048576 : Int) < (len0 : Int) := by omega
    go_enter Try.func4, Try.ntmps4
    go_wp2_with fail
    go_ret
    exact ⟨rfl, Below.refl _ _⟩
  have hi : ¬ (1048576 : Int) < (len0 : Int) := by omega
  go_enter Try.func4, Try.ntmps4
  go_wp2_with fail
  refine (drawDo a0 len0 cap0 z0 _ hz0 hl r0).mono ?_
  rintro e w1 ⟨op, a, b, rfl, b1⟩
  go_wp2_with fail
  refine (doI op a b _).mono ?_
  rintro e w2 ⟨rfl, g2⟩
  have b2 := b1.trans (g2.mono b1.size)
  go_wp2_with fail
  refine (doS op a b _).mono ?_
  rintro e w3 ⟨rfl, rfl⟩
  rcases Bool.eq_false_or_eq_true (okB a) with ha | ha
  case inr =>
    have f1 : doOk op a b = false := by simp [doOk, ha]
    have f2 := do_no f1
    go_wp2_with (first | (go_at_call 13; refine (okS _ _).mono ?_; rintro e w' ⟨rfl, rfl⟩) | (go_at_call 14; refine (owOk _).mono ?_; rintro e w' ⟨rfl, rfl⟩))
    go_ret
    exact ⟨rfl, b2⟩
  rcases Bool.eq_false_or_eq_true (okB b) with hb | hb
  case inr =>
    have f1 : doOk op a b = false := by simp [doOk, hb]
    have f2 := do_no f1
    go_wp2_with (first | (go_at_call 13; refine (okS _ _).mono ?_; rintro e w' ⟨rfl, rfl⟩) | (go_at_call 14; refine (owOk _).mono ?_; rintro e w' ⟨rfl, rfl⟩))
    go_ret
    exact ⟨rfl, b2⟩
  have c1 := back1 ha hb
  have c2 := back2 ha hb
  have c3 := ok_div ha hb
  have a1 := ok_lo ha
  have a2 := ok_hi ha
  have e1 := ok_lo hb
  have e2 := ok_hi hb
  have key : ∀ ok : Bool, doOk op a b = ok → (ok = false → doN op a b = 0) ∧ (ok = true → okB (doN op a b) = true) :=
    fun ok h => ⟨fun h' => do_no (by rw [h, h']), fun h' => ok_doN op a b (by rw [h, h'])⟩
  by_cases h0 : b = 0
  · subst h0
    have c3' : doOk 4 a 0 = false := by rw [c3]; rfl
    clear c3
    cases hok : doOk op a 0
    · have f2 := (key _ hok).1 rfl
      clear key
      go_wp2_with (first | (go_at_call 13; refine (okS _ _).mono ?_; rintro e w' ⟨rfl, rfl⟩) | (go_at_call 8; refine (okI _ _).mono ?_; rintro e w' ⟨rfl, rfl⟩))
      refine (doI 1 a 0 _).mono ?_
      rintro e w3' ⟨rfl, g3⟩
      have b3 := b2.trans (g3.mono b2.size)
      go_wp2_with fail
      refine (doI 2 (doN 1 a 0) 0 _).mono ?_
      rintro e w4' ⟨rfl, g4⟩
      have b4 := b3.trans (g4.mono b3.size)
      go_wp2_with fail
      refine (doI 2 a 0 _).mono ?_
      rintro e w5' ⟨rfl, g5⟩
      have b5 := b4.trans (g5.mono b4.size)
      go_wp2_with fail
      refine (doI 1 (doN 2 a 0) 0 _).mono ?_
      rintro e w6' ⟨rfl, g6⟩
      have b6 := b5.trans (g6.mono b5.size)
      go_wp2_with fail
      refine (doI 4 a 0 _).mono ?_
      rintro e w7' ⟨rfl, g7⟩
      have b7 := b6.trans (g7.mono b6.size)
      go_wp2_with (go_at_call 14; refine (owOk _).mono ?_; rintro e w' ⟨rfl, rfl⟩)
      go_ret
      exact ⟨rfl, b7⟩
    · have f2 := (key _ hok).2 rfl
      clear key
      go_wp2_with (first | (go_at_call 13; refine (okS _ _).mono ?_; rintro e w' ⟨rfl, rfl⟩) | (go_at_call 8; refine (okI _ _).mono ?_; rintro e w' ⟨rfl, rfl⟩))
      refine (doI 1 a 0 _).mono ?_
      rintro e w3' ⟨rfl, g3⟩
      have b3 := b2.trans (g3.mono b2.size)
      go_wp2_with fail
      refine (doI 2 (doN 1 a 0) 0 _).mono ?_
      rintro e w4' ⟨rfl, g4⟩
      have b4 := b3.trans (g4.mono b3.size)
      go_wp2_with fail
      refine (doI 2 a 0 _).mono ?_
      rintro e w5' ⟨rfl, g5⟩
      have b5 := b4.trans (g5.mono b4.size)
      go_wp2_with fail
      refine (doI 1 (doN 2 a 0) 0 _).mono ?_
      rintro e w6' ⟨rfl, g6⟩
      have b6 := b5.trans (g6.mono b5.size)
      go_wp2_with fail
      refine (doI 4 a 0 _).mono ?_
      rintro e w7' ⟨rfl, g7⟩
      have b7 := b6.trans (g7.mono b6.size)
      go_wp2_with (go_at_call 14; refine (owOk _).mono ?_; rintro e w' ⟨rfl, rfl⟩)
      go_ret
      exact ⟨rfl, b7⟩
  have g0 : (b == 0) = false := by simpa using h0
  have g1 : (b != 0) = true := by simpa using h0
  have c3' : doOk 4 a b = true := by rw [c3, g1]
  clear c3
  by_cases hm : a = -32768 ∧ b = -1
  · obtain ⟨rfl, rfl⟩ := hm
    cases hok : doOk op (-32768) (-1)
    · have f2 := (key _ hok).1 rfl
      clear key
      go_wp2_with (first | (go_at_call 13; refine (okS _ _).mono ?_; rintro e w' ⟨rfl, rfl⟩) | (go_at_call 8; refine (okI _ _).mono ?_; rintro e w' ⟨rfl, rfl⟩))
      refine (doI 1 (-32768) (-1) _).mono ?_
      rintro e w3' ⟨rfl, g3⟩
      have b3 := b2.trans (g3.mono b2.size)
      go_wp2_with fail
      refine (doI 2 (doN 1 (-32768) (-1)) (-1) _).mono ?_
      rintro e w4' ⟨rfl, g4⟩
      have b4 := b3.trans (g4.mono b3.size)
      go_wp2_with fail
      refine (doI 2 (-32768) (-1) _).mono ?_
      rintro e w5' ⟨rfl, g5⟩
      have b5 := b4.trans (g5.mono b4.size)
      go_wp2_with fail
      refine (doI 1 (doN 2 (-32768) (-1)) (-1) _).mono ?_
      rintro e w6' ⟨rfl, g6⟩
      have b6 := b5.trans (g6.mono b5.size)
      go_wp2_with fail
      refine (doI 4 (-32768) (-1) _).mono ?_
      rintro e w7' ⟨rfl, g7⟩
      have b7 := b6.trans (g7.mono b6.size)
      go_wp2_with (go_at_call 14; refine (owOk _).mono ?_; rintro e w' ⟨rfl, rfl⟩)
      go_ret
      exact ⟨rfl, b7⟩
    · have f2 := (key _ hok).2 rfl
      clear key
      go_wp2_with (first | (go_at_call 13; refine (okS _ _).mono ?_; rintro e w' ⟨rfl, rfl⟩) | (go_at_call 8; refine (okI _ _).mono ?_; rintro e w' ⟨rfl, rfl⟩))
      refine (doI 1 (-32768) (-1) _).mono ?_
      rintro e w3' ⟨rfl, g3⟩
      have b3 := b2.trans (g3.mono b2.size)
      go_wp2_with fail
      refine (doI 2 (doN 1 (-32768) (-1)) (-1) _).mono ?_
      rintro e w4' ⟨rfl, g4⟩
      have b4 := b3.trans (g4.mono b3.size)
      go_wp2_with fail
      refine (doI 2 (-32768) (-1) _).mono ?_
      rintro e w5' ⟨rfl, g5⟩
      have b5 := b4.trans (g5.mono b4.size)
      go_wp2_with fail
      refine (doI 1 (doN 2 (-32768) (-1)) (-1) _).mono ?_
      rintro e w6' ⟨rfl, g6⟩
      have b6 := b5.trans (g6.mono b5.size)
      go_wp2_with fail
      refine (doI 4 (-32768) (-1) _).mono ?_
      rintro e w7' ⟨rfl, g7⟩
      have b7 := b6.trans (g7.mono b6.size)
      go_wp2_with (go_at_call 14; refine (owOk _).mono ?_; rintro e w' ⟨rfl, rfl⟩)
      go_ret
      exact ⟨rfl, b7⟩
  obtain ⟨q0, q1, q2, q3⟩ := quo ha hb h0 hm
  have l1 := left_lt a b h0
  have l2 := left_sq a b h0
  have l3 := left_sign a b
  obtain ⟨m1, m2⟩ := mul_bd b (a.tdiv b) e1 e2 q1 q2
  generalize a.tdiv b = q at q0 q1 q2 q3 m1 m2
  generalize a.tmod b = r at q3 l1 l2 l3
  have r1 : -32768 ≤ r := by omega
  have r2 : r ≤ 32767 := by omega
  obtain ⟨s1, s2⟩ := sq_bd r (by omega)
  obtain ⟨s3, s4⟩ := sq_bd b (by omega)
  have hmm : (a == -32768) = false ∨ ((a == -32768) = true ∧ (b == -1) = false) := by
    by_cases h : a = -32768
    · exact .inr ⟨by simpa using h, by simp; omega⟩
    · exact .inl (by simpa using h)
  have hrr : (r == 0) = true ∨ ((r == 0) = false ∧ decide (0 < r) = decide (0 < a)) := by
    by_cases h : r = 0
    · exact .inl (by simpa using h)
    · exact .inr ⟨by simpa using h, by simp [l3 h]⟩
  clear l1 l3 hm h0
  cases hok : doOk op a b
  all_goals
    first | have f2 := (key _ hok).1 rfl | have f2 := (key _ hok).2 rfl
    clear key
    go_wp2_with (first | (go_at_call 13; refine (okS _ _).mono ?_; rintro e w' ⟨rfl, rfl⟩) | (go_at_call 8; refine (okI _ _).mono ?_; rintro e w' ⟨rfl, rfl⟩))
    refine (doI 1 a b _).mono ?_
    rintro e w3' ⟨rfl, g3⟩
    have b3 := b2.trans (g3.mono b2.size)
    go_wp2_with fail
    refine (doI 2 (doN 1 a b) b _).mono ?_
    rintro e w4' ⟨rfl, g4⟩
    have b4 := b3.trans (g4.mono b3.size)
    go_wp2_with fail
    refine (doI 2 a b _).mono ?_
    rintro e w5' ⟨rfl, g5⟩
    have b5 := b4.trans (g5.mono b4.size)
    go_wp2_with fail
    refine (doI 1 (doN 2 a b) b _).mono ?_
    rintro e w6' ⟨rfl, g6⟩
    have b6 := b5.trans (g6.mono b5.size)
    go_wp2_with fail
    refine (doI 4 a b _).mono ?_
    rintro e w7' ⟨rfl, g7⟩
    have b7 := b6.trans (g7.mono b6.size)
    rcases hmm with hmm | ⟨hm1, hm2⟩ <;> rcases hrr with hrr | ⟨hr1, hr2⟩
    all_goals
      go_wp2_with (go_at_call 14; refine (owOk _).mono ?_; rintro e w' ⟨rfl, rfl⟩)
      go_ret
      exact ⟨rfl, b7⟩

theorem contract (H : Type) (enc : TypeId × Value → H) (W : World) (base : Nat) (args : Array Value) (ds gs : List (DataW H)) (before : List MemPlace)
    (hval : ∀ (j : Nat) t v, Try.f4.params[j]? = some t → args[j]? = some v → Value.okWide Try.prog W .any base t v)
    (hW : DataW.Whole enc Try.prog Try.f4.params.toList Rows.fnNumDoSpec.vars false W args.toList ds gs before) :
    Calls Try.prog 4 args W fun e W' => ∃ v, e = .returned v ∧ Rows.fnNumDoSpec.post enc Try.prog Try.f4 false true false false W args v W' := by
  have hW' := hW
  obtain ⟨p, q, hA0, hV, rfl, hfz, hnd⟩ := hW
  have hA : DataW.TrodAll enc Try.prog W 0 (fun _ => true) true Try.f4.params.toList args.toList ds p := hA0
  rw [Try.params4] at hA hval
  obtain ⟨v0, vs0, d0, ds0, p0, q0, hargs, rfl, rfl, h0, r0'⟩ := trodAll_cons hA
  obtain ⟨rfl, rfl, rfl⟩ := trodAll_nil r0'
  obtain rfl : args = #[v0] := by cases args; simp_all
  obtain ⟨rfl, rfl⟩ := trodVars_none hV
  obtain ⟨a0, len0, cap0, rfl⟩ := okWide_slice Try.underlying22 (hval 0 22 v0 rfl rfl)
  have k0 := h0
  have lt0 : ∀ x ∈ p0, x.block < W.heap.size := by obtain ⟨m, hm⟩ := k0; exact DataW.trod_lt m _ _ _ hm
  obtain ⟨z0, hz0, r0⟩ : ∃ z : Nat → Int, (∀ i, 0 ≤ z i ∧ z i ≤ 255) ∧ Bytes W a0 len0 cap0 z := by
    obtain ⟨fuel, hf⟩ := h0
    rcases open_ints Try.underlying22 Try.underlying5 (by kernel_rfl) hf with ⟨hcs, _⟩ | ⟨x, l, c, zs, hcs, _, hl, hm, hz, _, hcell, hwz⟩
    · simp [Value.cells] at hcs
      obtain ⟨rfl, rfl, rfl⟩ := hcs
      exact ⟨fun _ => 0, fun _ => by simp, .inl rfl⟩
    · simp [Value.cells] at hcs
      obtain ⟨rfl, rfl, rfl⟩ := hcs
      exact bytes_of hl (by simpa using hz) hcell hwz
  clear hA0
  refine (walk a0 len0 cap0 z0 W hz0 r0).mono fun e W' ⟨he, bel⟩ => ?_
  subst he
  exact ⟨_, rfl, _, _, _, [], _, [], hW', trodAll_mk1 (shut_bool Try.underlying4 _), (trodAll_cons_mk (Below.trod laidOut (by kernel_rfl) (of_decide_eq_true (by kernel_rfl)) k0 bel lt0) trodAll_mk0), rfl, bel.frame _, fun h => by cases h⟩

set_option maxRecDepth 100000 in
theorem lifted (os : Os) (started : os.Started) (H : Type) (enc : TypeId × Value → H) :
    ReturnsInHanded {} Try.checked os 4 .any (Rows.fnNumDoSpec.pre6 enc Try.prog Try.f4 Rows.fnNumDoRow.domain false) (Rows.fnNumDoSpec.post enc Try.prog Try.f4 false true false false) := by
  refine returnsInHanded_of_change (C := Try.checked) own started (by kernel_rfl) Try.func4
    (ChangeSpec.witness6 (enc := enc) (C := Try.checked) false ⟨#[], #[.slice none 0 0], []⟩ 8 (by kernel_rfl) (by kernel_rfl) (by kernel_rfl) (by kernel_rfl)) ?_
  intro W base args ds gs before hval hW _ _
  exact contract H enc W base args ds gs before hval hW

theorem proved : Rows.FnNumDoSaid :=
  OpenClaim.holds_of_wide 4 Try.f4 rfl rfl rfl rfl rfl rfl rfl ⟨rfl, rfl, rfl, rfl, rfl⟩ rfl rfl rfl rfl rfl (by kernel_rfl) Try.func4 (by kernel_rfl)
    (of_decide_eq_true (by kernel_rfl)) (by unfold Func.isWrapper; first | (rw [if_pos (by decide +kernel)]; kernel_rfl) | (rw [if_neg (by decide +kernel)]; exact ⟨rfl, rfl⟩))
    (fun os started H enc _ => lifted os started H enc)
#print axioms proved
end Go.Proofs.Ytgejbdblieohjaa.fnNumDo
