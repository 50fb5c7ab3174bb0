/- Lists of sums: in memory, counted, copied, held against each other, handed in; SumsOk, the model's and the program's. -/
import Derived.Test.YtdpkbbbfnmneiaaOpenAbs
import Derived.Test.YtdpkbbbfnmneiaaAbsOk
import Derived.Test.YtdpkbbbfnmneiaaPrgOkS
import Derived.Test.YtdpkbbbfnmneiaaPrgOkI
import Derived.Test.YtdpkbbbfnmneiaaPrgTo2
import Derived.Test.YtdpkbbbfnmneiaaPrgEq
namespace Go.Proofs.Ytdpkbbbfnmneiaa
open Go.ChangeShapes Go.WideShapes Go.ChangeAt Go.RowKit
set_option linter.unusedVariables false

theorem toSum (x : Bool) (c d : Int) (w : World) :
    Calls Try.prog 90 #[.agg #[.bool x, .int .i64 c, .int .i64 d]] w fun e w' => e = .returned (.agg #[.bool x, .int .i64 c, .int .i64 d]) ∧ Below w.heap.size w w' := by
  have H0 : HeldL w [(w.heap.size + 1 + 1, [Value.bool x, .int .i64 0, .int .i64 0]), (w.heap.size + 1, [Value.bool false, .int .i64 0, .int .i64 0]), (w.heap.size, [Value.bool x, .int .i64 c, .int .i64 d])] (((w.alloc (.cells #[.bool x, .int .i64 c, .int .i64 d] 148)).alloc (.cells #[.bool false, .int .i64 0, .int .i64 0] 92)).alloc (.cells #[.bool x, .int .i64 0, .int .i64 0] 92)) := by
    have e1 : w.heap.size + 1 = (w.alloc (.cells #[.bool x, .int .i64 c, .int .i64 d] 148)).heap.size := by simp
    have e2 : w.heap.size + 1 + 1 = ((w.alloc (.cells #[.bool x, .int .i64 c, .int .i64 d] 148)).alloc (.cells #[.bool false, .int .i64 0, .int .i64 0] 92)).heap.size := by simp
    rw [e2, e1]
    exact HeldL.newL (vs := [Value.bool x, .int .i64 0, .int .i64 0]) (HeldL.newL (vs := [Value.bool false, .int .i64 0, .int .i64 0]) (HeldL.newL (vs := [Value.bool x, .int .i64 c, .int .i64 d]) (HeldL.nil w)))
  have ne2 : ∀ e ∈ [(w.heap.size + 1, [Value.bool false, .int .i64 0, .int .i64 0]), (w.heap.size, [Value.bool x, .int .i64 c, .int .i64 d])], e.1 ≠ w.heap.size + 1 + 1 := by intro e he; simp at he; rcases he with rfl | rfl <;> dsimp only <;> omega
  go_enter Try.func90, Try.ntmps90
  go_wp2_with fail
  refine (toItv _ _ _).mono ?_
  rintro e w1 ⟨rfl, hb⟩
  have H1 := H0.next hb
  clear H0 hb
  have x1 := H1.cell List.mem_cons_self (i := 1) rfl
  have x2 := H1.cell List.mem_cons_self (i := 2) rfl
  have fB := H1.free _ List.mem_cons_self
  have H4 := HeldL.putI (i := 2) (x := .int .i64 d) (by omega) ne2 (HeldL.putI (i := 1) (x := .int .i64 c) (by omega) ne2 H1 (by simp)) (by simp)
  simp only [List.set_cons_succ, List.set_cons_zero] at H4
  have o0 := H4.cell List.mem_cons_self (i := 0) rfl
  have o1 := H4.cell List.mem_cons_self (i := 1) rfl
  have o2 := H4.cell List.mem_cons_self (i := 2) rfl
  have r0 := H4.cell (List.mem_cons_of_mem _ List.mem_cons_self) (i := 0) rfl
  have r1 := H4.cell (List.mem_cons_of_mem _ List.mem_cons_self) (i := 1) rfl
  have r2 := H4.cell (List.mem_cons_of_mem _ List.mem_cons_self) (i := 2) rfl
  have fr := H4.free _ (List.mem_cons_of_mem _ List.mem_cons_self)
  dsimp only at x1 x2 fB o0 o1 o2 r0 r1 r2 fr
  obtain ⟨e0, e1, e2⟩ := own3 r0 r1 r2
  have bE := H4.below
  clear H1 H4
  go_wp2_with fail
  refine bodyPost_ret (v := .agg #[.bool x, .int .i64 c, .int .i64 d]) (by simp [results, Try.results90, go_sem, e0, e1, e2]) rfl ⟨rfl, ?_⟩
  exact setAll_below (g := w.heap.size + 1) (by omega) [.bool x, .int .i64 c, .int .i64 d] 0 _ bE
theorem eqSum (x : Bool) (c d : Int) (w : World) :
    Calls Try.prog 95 #[.agg #[.bool x, .int .i64 c, .int .i64 d], .agg #[.bool x, .int .i64 c, .int .i64 d]] w fun e w' => e = .returned (.bool true) ∧ Below w.heap.size w w' := by
  have b0 : Below w.heap.size w ((w.alloc (.cells #[.bool x, .int .i64 c, .int .i64 d] 92)).alloc (.cells #[.bool x, .int .i64 c, .int .i64 d] 92)) := by
    repeat (first | exact Below.refl _ _ | refine Below.alloc ?_ (by simp; try omega) _)
  go_enter Try.func95, Try.ntmps95
  go_wp2_with fail
  refine (eqItv _ _ _ _ _).mono ?_
  rintro e w1 ⟨rfl, hb⟩
  simp only [beq_self_eq_true, Bool.and_self]
  go_wp2_with fail
  go_ret
  exact ⟨rfl, below_tr b0 hb⟩
theorem open_sum1 {H : Type} {enc : TypeId × Value → H} {w : World} {base : Nat} {sp : Nat → Bool} {held : Bool} {fuel : Nat} {c0 c1 c2 : Value} {x : DataW H × List MemPlace}
    (h : DataW.trod enc Try.prog w base sp held fuel 148 [c0, c1, c2] = some x) : ∃ (z0 : Bool) (z1 z2 : Int), c0 = .bool z0 ∧ c1 = .int .i64 z1 ∧ c2 = .int .i64 z2 := by
  have hc1' : Try.prog.cellsOf 4 = 1 := by kernel_rfl
  have hc3' : Try.prog.cellsOf 67 = 2 := by kernel_rfl
  obtain ⟨ys, q, _, _, _, hl', hf⟩ := Go.DataW.trod_struct Try.underlying148 h
  match ys, hl' with
  | [y0, y1], _ =>
    have hy0 := hf 0 _ rfl
    have hy1 := hf 1 _ rfl
    simp [hc1', hc3'] at hy0 hy1
    obtain ⟨z0, e0, _⟩ := DataW.trod_bool Try.underlying4 hy0
    obtain ⟨z1, z2, e1, e2⟩ := open_ends hy1
    simp at e0
    exact ⟨z0, z1, z2, e0, e1, e2⟩
structure Sm where
  on : Bool
  lo : Int
  hi : Int
/-- n rows lie at a, in block b from off on. -/
structure SumsAt (a : Option Addr) (b off n : Nat) (U : Nat → Sm) (W : World) : Prop where
  at_ : 0 < n → a = some ⟨b, off, none⟩
  lt : 0 < n → b < W.heap.size
  f0 : ∀ k, k < n → W.cell? ⟨b, off + k * 3, none⟩ = some (.bool (U k).on)
  f1 : ∀ k, k < n → W.cell? ⟨b, off + k * 3 + 1, none⟩ = some (.int .i64 (U k).lo)
  f2 : ∀ k, k < n → W.cell? ⟨b, off + k * 3 + 2, none⟩ = some (.int .i64 (U k).hi)
theorem SumsAt.next {a : Option Addr} {b off n : Nat} {U : Nat → Sm} {W W' : World} (h : SumsAt a b off n U W) (hb : Below W.heap.size W W') : SumsAt a b off n U W' :=
  ⟨h.at_, fun hn => Nat.lt_of_lt_of_le (h.lt hn) hb.size, fun k hk => (hb.cell (p := ⟨b, off + k * 3, none⟩) (h.lt (by omega))).trans (h.f0 k hk), fun k hk => (hb.cell (p := ⟨b, off + k * 3 + 1, none⟩) (h.lt (by omega))).trans (h.f1 k hk), fun k hk => (hb.cell (p := ⟨b, off + k * 3 + 2, none⟩) (h.lt (by omega))).trans (h.f2 k hk)⟩
theorem SumsAt.set {a : Option Addr} {b off n : Nat} {U : Nat → Sm} {W : World} {G o : Nat} {vs : List Value} (h : SumsAt a b off n U W) (hne : b ≠ G) : SumsAt a b off n U (setAll G o vs W) :=
  have k : ∀ q, (setAll G o vs W).cell? ⟨b, q, none⟩ = W.cell? ⟨b, q, none⟩ := fun q => setAll_other _ _ _ _ (fun j' _ e => hne (by injection e))
  ⟨h.at_, fun hn => Nat.lt_of_lt_of_le (h.lt hn) (setAll_below (B := 0) (w := W) (Nat.zero_le _) vs o W (Below.refl _ _)).size, fun i hi => (k _).trans (h.f0 i hi), fun i hi => (k _).trans (h.f1 i hi), fun i hi => (k _).trans (h.f2 i hi)⟩
theorem szSums (a : Option Addr) (n cap : Nat) (left : Int) (w : World) (hl : 0 ≤ left ∧ left ≤ 1048576) (hn : n ≤ maxLen) :
    Calls Try.prog 41 #[.slice a n cap, .int .i64 left] w fun e w' => ∃ r : Int, e = .returned (.int .i64 r) ∧ (r = -1 ∨ (r = left - n ∧ 0 ≤ r)) ∧ Below w.heap.size w w' := by
  have hw : IntKind.i64.wrap (left - (n : Int)) = left - n := by
    have : maxLen ≤ 9223372036854775807 := by decide
    simp [IntKind.wrap, IntKind.signed, IntKind.bits]; omega
  go_enter Try.func41, Try.ntmps41
  go_wp2
  all_goals go_ret
  · exact ⟨_, rfl, .inl rfl, Below.refl _ _⟩
  · exact ⟨_, rfl, .inr ⟨rfl, by omega⟩, Below.refl _ _⟩
set_option maxRecDepth 10000 in
set_option maxHeartbeats 4000000 in
theorem toSums (a : Option Addr) (b off n cap : Nat) (U : Nat → Sm) (w : World) (hn : n ≤ 1048576) (hC : SumsAt a b off n U w) :
    Calls Try.prog 47 #[.slice a n cap] w fun e w' => ∃ g : Nat, e = .returned (.slice (some ⟨g, 0, none⟩) n n) ∧ w.heap.size ≤ g ∧ g < w'.heap.size ∧ SumsAt (some ⟨g, 0, none⟩) g 0 n U w' ∧ Below w.heap.size w w' := by
  have hmk := fun W => make_rows (P := Try.prog) 39 92 (.agg #[.bool false, .int .i64 0, .int .i64 0]) 3 24 Try.underlying39 (by kernel_rfl) n (by omega) (by omega) W
  go_enter Try.func47, Try.ntmps47
  go_wp2
  have hbel : Below w.heap.size w (w.alloc (.cells (madeCells #[.bool false, .int .i64 0, .int .i64 0] (n * 3)) 92)) := (Below.refl _ _).alloc (Nat.le_refl _) _
  have hnew : ∀ i j, i < n → j < 3 → (w.alloc (.cells (madeCells #[.bool false, .int .i64 0, .int .i64 0] (n * 3)) 92)).cell? ⟨w.heap.size, i * 3 + j, none⟩ = some ((#[.bool false, .int .i64 0, .int .i64 0] : Array Value)[j]!) := fun i j hi hj => by
    rw [made_cell _ _ _ _ _ (by omega), show (i * 3 + j) % (#[.bool false, .int .i64 0, .int .i64 0] : Array Value).size = j by simp <;> omega]
  have hfr : ∀ i, (w.alloc (.cells (madeCells #[.bool false, .int .i64 0, .int .i64 0] (n * 3)) 92)).frozen? ⟨w.heap.size, i, none⟩ = false := fun i => World.frozen?_alloc_new _ _ _ _
  have hsz : w.heap.size < (w.alloc (.cells (madeCells #[.bool false, .int .i64 0, .int .i64 0] (n * 3)) 92)).heap.size := by simp
  generalize w.alloc (.cells (madeCells #[.bool false, .int .i64 0, .int .i64 0] (n * 3)) 92) = W1 at hbel hnew hfr hsz ⊢
  clear hmk
  obtain ⟨g, hg⟩ : ∃ g, g = w.heap.size := ⟨_, rfl⟩
  rw [← hg] at hnew hfr hsz
  have hgS : Hid (g = w.heap.size) := hg
  rw [← hg]
  clear hg
  go_loopw [4] (fun i wr => ∃ k : Nat, k ≤ n ∧ i = .int .i64 k ∧ Below w.heap.size w wr ∧ g < wr.heap.size ∧ (∀ i, i < n → wr.cell? ⟨g, i * 3, none⟩ = some (.bool (if i < k then (U i).on else false)) ∧ wr.cell? ⟨g, i * 3 + 1, none⟩ = some (.int .i64 (if i < k then (U i).lo else 0)) ∧ wr.cell? ⟨g, i * 3 + 2, none⟩ = some (.int .i64 (if i < k then (U i).hi else 0))) ∧ (∀ i, wr.frozen? ⟨g, i, none⟩ = false)) (fun i _ => n - (intOf i).toNat)
  case atStart => exact ⟨0, Nat.zero_le _, rfl, hbel, hsz, fun i hi => ⟨by simpa using hnew i 0 hi (by omega), by simpa using hnew i 1 hi (by omega), by simpa using hnew i 2 hi (by omega)⟩, hfr⟩
  case round =>
    obtain ⟨k, hk, rfl, hB, hs, hc, hf⟩ := hrel
    have hcS : Hid (∀ i, i < n → wr.cell? ⟨g, i * 3, none⟩ = some (.bool (if i < k then (U i).on else false)) ∧ wr.cell? ⟨g, i * 3 + 1, none⟩ = some (.int .i64 (if i < k then (U i).lo else 0)) ∧ wr.cell? ⟨g, i * 3 + 2, none⟩ = some (.int .i64 (if i < k then (U i).hi else 0))) := hc
    have hfS : Hid (∀ i, wr.frozen? ⟨g, i, none⟩ = false) := hf
    clear hc hf hnew hfr hsz hbel
    by_cases hlt : k < n
    · have hC' := hC.next hB
      have e1 := hC'.at_ (by omega)
      have d0 := hC'.f0 k hlt
      have d1 := hC'.f1 k hlt
      have d2 := hC'.f2 k hlt
      have t1 : ((k : Int)).toNat = k := by omega
      have t2 : (0 : Int) ≤ (k : Int) := by omega
      have t3 : (k : Int) < (n : Int) := by omega
      subst e1
      clear hC hC'
      go_wp2_with fail
      refine (toSum _ _ _ _).mono ?_
      rintro e w1 ⟨rfl, hb⟩
      have hB1 := below_tr hB hb
      have hs1 : g < w1.heap.size := Nat.lt_of_lt_of_le hs hb.size
      have q : ∀ i, w1.cell? ⟨g, i, none⟩ = wr.cell? ⟨g, i, none⟩ := fun i => hb.cell (p := ⟨g, i, none⟩) hs
      have qf : ∀ i, w1.frozen? ⟨g, i, none⟩ = false := fun i => (hb.frozen (p := ⟨g, i, none⟩) hs).trans (hfS.out i)
      have z0 : w1.cell? ⟨g, k * 3, none⟩ = some (.bool false) := by rw [q, (hcS.out k hlt).1, if_neg (by omega)]
      have z1 : w1.cell? ⟨g, k * 3 + 1, none⟩ = some (.int .i64 0) := by rw [q, (hcS.out k hlt).2.1, if_neg (by omega)]
      have z2 : w1.cell? ⟨g, k * 3 + 2, none⟩ = some (.int .i64 0) := by rw [q, (hcS.out k hlt).2.2, if_neg (by omega)]
      have hzS : Hid (∀ j, j < 3 → (w1.cell? ⟨g, k * 3 + j, none⟩).isSome = true) := fun j hj => by
        rcases (show j = 0 ∨ j = 1 ∨ j = 2 by omega) with rfl | rfl | rfl
        · rw [Nat.add_zero, z0]; rfl
        · rw [z1]; rfl
        · rw [z2]; rfl
      have qS : Hid (∀ i, w1.cell? ⟨g, i, none⟩ = wr.cell? ⟨g, i, none⟩) := q
      clear q d0 d1 d2
      go_wp2_with fail
      go_roundw
      case measure => simp [intOf]; omega
      refine ⟨k + 1, by omega, by go_num, setAll_below (by rw [hgS.out]; exact Nat.le_refl _) [.bool (U k).on, .int .i64 (U k).lo, .int .i64 (U k).hi] (k * 3) w1 hB1, by simpa [World.setCell] using hs1, fun i hi' => ?_, fun i => (setAll_frozen _ [.bool (U k).on, .int .i64 (U k).lo, .int .i64 (U k).hi] (k * 3) w1).trans (qf i)⟩
      show (setAll g (k * 3) [.bool (U k).on, .int .i64 (U k).lo, .int .i64 (U k).hi] w1).cell? _ = _ ∧ (setAll g (k * 3) [.bool (U k).on, .int .i64 (U k).lo, .int .i64 (U k).hi] w1).cell? _ = _ ∧ (setAll g (k * 3) [.bool (U k).on, .int .i64 (U k).lo, .int .i64 (U k).hi] w1).cell? _ = _
      by_cases h8 : i = k
      · subst h8
        rw [if_pos (by omega), if_pos (by omega), if_pos (by omega)]
        exact ⟨setAll_at _ (i * 3) w1 0 (.bool (U i).on) (fun j hj => hzS.out j (by simpa using hj)) rfl, setAll_at _ (i * 3) w1 1 (.int .i64 (U i).lo) (fun j hj => hzS.out j (by simpa using hj)) rfl, setAll_at _ (i * 3) w1 2 (.int .i64 (U i).hi) (fun j hj => hzS.out j (by simpa using hj)) rfl⟩
      · have oth : ∀ d, d < 3 → (setAll g (k * 3) [.bool (U k).on, .int .i64 (U k).lo, .int .i64 (U k).hi] w1).cell? ⟨g, i * 3 + d, none⟩ = wr.cell? ⟨g, i * 3 + d, none⟩ := fun d hd => by
          rw [setAll_other _ _ _ _ (fun j' hj' e => by
            have : j' < 3 := by simpa using hj'
            have : i * 3 + d = k * 3 + j' := by injection e
            omega), qS.out]
        have o0 := oth 0 (by omega)
        have o1 := oth 1 (by omega)
        have o2 := oth 2 (by omega)
        rw [Nat.add_zero] at o0
        rw [o0, o1, o2, (hcS.out i hi').1, (hcS.out i hi').2.1, (hcS.out i hi').2.2]
        by_cases h1 : i < k
        · rw [if_pos h1, if_pos h1, if_pos h1, if_pos (by omega), if_pos (by omega), if_pos (by omega)]; exact ⟨rfl, rfl, rfl⟩
        · rw [if_neg h1, if_neg h1, if_neg h1, if_neg (by omega), if_neg (by omega), if_neg (by omega)]; exact ⟨rfl, rfl, rfl⟩
    · obtain rfl : k = n := by omega
      go_wp2_with fail
      go_ret
      refine ⟨g, rfl, by rw [hgS.out]; exact Nat.le_refl _, hs, ⟨fun _ => rfl, fun _ => hs, fun i hi' => ?_, fun i hi' => ?_, fun i hi' => ?_⟩, hB⟩
      · rw [Nat.zero_add, (hcS.out _ hi').1, if_pos hi']
      · rw [Nat.zero_add, (hcS.out _ hi').2.1, if_pos hi']
      · rw [Nat.zero_add, (hcS.out _ hi').2.2, if_pos hi']
set_option maxRecDepth 10000 in
set_option maxHeartbeats 8000000 in
theorem eqSums (g h n : Nat) (U : Nat → Sm) (w : World) (hbig : n ≤ 1048576) (h1 : SumsAt (some ⟨g, 0, none⟩) g 0 n U w) (h2 : SumsAt (some ⟨h, 0, none⟩) h 0 n U w) :
    Calls Try.prog 55 #[.slice (some ⟨g, 0, none⟩) n n, .slice (some ⟨h, 0, none⟩) n n] w fun e w' => e = .returned (.bool true) ∧ Below w.heap.size w w' := by
  go_enter Try.func55, Try.ntmps55
  go_wp2
  go_loopw [5] (fun i wr => ∃ k : Nat, k ≤ n ∧ i = .int .i64 k ∧ Below w.heap.size w wr) (fun i _ => n - (intOf i).toNat)
  case atStart => exact ⟨0, Nat.zero_le _, rfl, Below.refl _ _⟩
  case round =>
    obtain ⟨k, hk, rfl, hB⟩ := hrel
    by_cases hlt : k < n
    · have t1 : ((k : Int)).toNat = k := by omega
      have t2 : (0 : Int) ≤ (k : Int) := by omega
      have t3 : (k : Int) < (n : Int) := by omega
      have hS0 : Below w.heap.size w wr.drew := hB.drew
      clear hB
      go_wp2_with fail
      refine region_inv3 [(0, 17), (1, 18), (2, 19), (3, 20), (4, 21), (5, 22), (6, 23), (7, 24), (8, 25), (9, 26)]
        (fun j vx _ => match j with
          | 0 => Is (.slice (some ⟨g, 0, none⟩) n n) vx
          | 1 => Is (.int .i64 k) vx
          | 2 => Is (.pointer (some ⟨g, k * 3, none⟩)) vx
          | 3 => Is (.agg #[.bool (U k).on, .int .i64 (U k).lo, .int .i64 (U k).hi]) vx
          | 4 => Is (.slice (some ⟨h, 0, none⟩) n n) vx
          | 5 => Is (.int .i64 k) vx
          | 6 => Is (.pointer (some ⟨h, k * 3, none⟩)) vx
          | 7 => Is (.agg #[.bool (U k).on, .int .i64 (U k).lo, .int .i64 (U k).hi]) vx
          | 8 => Is (.bool true) vx
          | 9 => Is (.bool false) vx
          | _ => True)
        (fun _ W => Below w.heap.size w W) TT
        (by kernel_rfl) (by kernel_rfl) (by kernel_rfl) (by kernel_rfl) (by kernel_rfl) rfl hS0 (fun i j v W W' _ h _ => h) ?_ ?_
      · intro i L vals W hi' hφ hS hL hd
        have hi2 : i < 10 := hi'
        clear hi'
        rcases (show i = 0 ∨ i = 1 ∨ i = 2 ∨ i = 3 ∨ i = 4 ∨ i = 5 ∨ i = 6 ∨ i = 7 ∨ i = 8 ∨ i = 9 by omega) with rfl | rfl | rfl | rfl | rfl | rfl | rfl | rfl | rfl | rfl
        · refine wpAt_of rfl rfl ?_
          simp only [frOf, Act.put]
          go_wp2_with fail
          first | exact ⟨trivial, rfl, trivial, hS⟩ | exact ⟨rfl, trivial, hS⟩ | exact ⟨trivial, rfl, trivial⟩ | exact ⟨rfl, trivial⟩ | exact rfl
        · refine wpAt_of rfl rfl ?_
          simp only [frOf, Act.put]
          go_wp2_with fail
          first | exact ⟨trivial, rfl, trivial, hS⟩ | exact ⟨rfl, trivial, hS⟩ | exact ⟨trivial, rfl, trivial⟩ | exact ⟨rfl, trivial⟩ | exact rfl
        · have k0 : vals 0 = .slice (some ⟨g, 0, none⟩) n n := hφ 0 (hd 0 (by decide))
          have k1 : vals 1 = .int .i64 k := hφ 1 (hd 1 (by decide))
          refine wpAt_of rfl rfl ?_
          simp only [frOf, Act.put]
          go_wp2_with fail
          first | exact ⟨trivial, rfl, trivial, hS⟩ | exact ⟨rfl, trivial, hS⟩ | exact ⟨trivial, rfl, trivial⟩ | exact ⟨rfl, trivial⟩ | exact rfl
        · have k2 : vals 2 = .pointer (some ⟨g, k * 3, none⟩) := hφ 2 (hd 2 (by decide))
          have dd := h1.next hS
          have d0 := dd.f0 k hlt
          have d1 := dd.f1 k hlt
          have d2 := dd.f2 k hlt
          rw [Nat.zero_add] at d0 d1 d2
          clear dd
          refine wpAt_of rfl rfl ?_
          simp only [frOf, Act.put]
          go_wp2_with fail
          first | exact ⟨trivial, rfl, trivial, hS⟩ | exact ⟨rfl, trivial, hS⟩ | exact ⟨trivial, rfl, trivial⟩ | exact ⟨rfl, trivial⟩ | exact rfl
        · refine wpAt_of rfl rfl ?_
          simp only [frOf, Act.put]
          go_wp2_with fail
          first | exact ⟨trivial, rfl, trivial, hS⟩ | exact ⟨rfl, trivial, hS⟩ | exact ⟨trivial, rfl, trivial⟩ | exact ⟨rfl, trivial⟩ | exact rfl
        · refine wpAt_of rfl rfl ?_
          simp only [frOf, Act.put]
          go_wp2_with fail
          first | exact ⟨trivial, rfl, trivial, hS⟩ | exact ⟨rfl, trivial, hS⟩ | exact ⟨trivial, rfl, trivial⟩ | exact ⟨rfl, trivial⟩ | exact rfl
        · have k4 : vals 4 = .slice (some ⟨h, 0, none⟩) n n := hφ 4 (hd 4 (by decide))
          have k5 : vals 5 = .int .i64 k := hφ 5 (hd 5 (by decide))
          refine wpAt_of rfl rfl ?_
          simp only [frOf, Act.put]
          go_wp2_with fail
          first | exact ⟨trivial, rfl, trivial, hS⟩ | exact ⟨rfl, trivial, hS⟩ | exact ⟨trivial, rfl, trivial⟩ | exact ⟨rfl, trivial⟩ | exact rfl
        · have k6 : vals 6 = .pointer (some ⟨h, k * 3, none⟩) := hφ 6 (hd 6 (by decide))
          have dd := h2.next hS
          have d0 := dd.f0 k hlt
          have d1 := dd.f1 k hlt
          have d2 := dd.f2 k hlt
          rw [Nat.zero_add] at d0 d1 d2
          clear dd
          refine wpAt_of rfl rfl ?_
          simp only [frOf, Act.put]
          go_wp2_with fail
          first | exact ⟨trivial, rfl, trivial, hS⟩ | exact ⟨rfl, trivial, hS⟩ | exact ⟨trivial, rfl, trivial⟩ | exact ⟨rfl, trivial⟩ | exact rfl
        · have k3 : vals 3 = .agg #[.bool (U k).on, .int .i64 (U k).lo, .int .i64 (U k).hi] := hφ 3 (hd 3 (by decide))
          have k7 : vals 7 = .agg #[.bool (U k).on, .int .i64 (U k).lo, .int .i64 (U k).hi] := hφ 7 (hd 7 (by decide))
          refine wpAt_of rfl rfl ?_
          simp only [frOf, Act.put]
          go_wp2_with fail
          refine (eqSum _ _ _ _).mono ?_
          rintro e W' ⟨rfl, hb⟩
          go_wp2_with fail
          first | exact ⟨trivial, rfl, trivial, below_tr hS hb⟩ | exact ⟨rfl, trivial, below_tr hS hb⟩
        · have k8 : vals 8 = .bool true := hφ 8 (hd 8 (by decide))
          refine wpAt_of rfl rfl ?_
          simp only [frOf, Act.put]
          go_wp2_with fail
          first | exact ⟨trivial, rfl, trivial, hS⟩ | exact ⟨rfl, trivial, hS⟩ | exact ⟨trivial, rfl, trivial⟩ | exact ⟨rfl, trivial⟩ | exact rfl
      · intro L vals W hall hφ hS
        have k0 : vals 0 = .slice (some ⟨g, 0, none⟩) n n := hφ 0 (by decide)
        have k1 : vals 1 = .int .i64 k := hφ 1 (by decide)
        have k2 : vals 2 = .pointer (some ⟨g, k * 3, none⟩) := hφ 2 (by decide)
        have k3 : vals 3 = .agg #[.bool (U k).on, .int .i64 (U k).lo, .int .i64 (U k).hi] := hφ 3 (by decide)
        have k4 : vals 4 = .slice (some ⟨h, 0, none⟩) n n := hφ 4 (by decide)
        have k5 : vals 5 = .int .i64 k := hφ 5 (by decide)
        have k6 : vals 6 = .pointer (some ⟨h, k * 3, none⟩) := hφ 6 (by decide)
        have k7 : vals 7 = .agg #[.bool (U k).on, .int .i64 (U k).lo, .int .i64 (U k).hi] := hφ 7 (by decide)
        have k8 : vals 8 = .bool true := hφ 8 (by decide)
        have k9 : vals 9 = .bool false := hφ 9 (by decide)
        simp only [frOf, Act.put, List.setIfInBounds_toArray, List.set_cons_succ, List.set_cons_zero, k0, k1, k2, k3, k4, k5, k6, k7, k8, k9]
        clear k0 k1 k2 k3 k4 k5 k6 k7 k8 k9
        clear hall hφ hS0
        go_wp2_with fail
        go_roundw
        case rel => exact ⟨k + 1, by omega, by go_num, hS⟩
        case measure => simp [intOf]; omega
    · obtain rfl : k = n := by omega
      clear h1 h2
      go_wp2_with fail
      go_ret
      exact ⟨rfl, hB⟩
def SumsV (n : Nat) (U : Nat → Sm) (v : Value) (W : World) : Prop := ∃ g : Nat, v = .slice (some ⟨g, 0, none⟩) n n ∧ g < W.heap.size ∧ SumsAt (some ⟨g, 0, none⟩) g 0 n U W
theorem SumsV.next {n : Nat} {U : Nat → Sm} {v : Value} {W W' : World} (h : SumsV n U v W) (hb : Below W.heap.size W W') : SumsV n U v W' := by
  obtain ⟨g, e, h1, h2⟩ := h
  exact ⟨g, e, Nat.lt_of_lt_of_le h1 hb.size, h2.next hb⟩
def sumsAt (w : World) (b off : Nat) : Nat → Sm := fun i => ⟨bolC (w.cell? ⟨b, off + i * 3, none⟩), intC (w.cell? ⟨b, off + i * 3 + 1, none⟩), intC (w.cell? ⟨b, off + i * 3 + 2, none⟩)⟩
theorem open_sums {H : Type} {enc : TypeId × Value → H} {w : World} {base : Nat} {sp : Nat → Bool} {held : Bool} {fuel : Nat} {v : Value} {x : DataW H × List MemPlace}
    (h : DataW.trod enc Try.prog w base sp held fuel 27 [v] = some x) :
    ∃ (a : Option Addr) (n cap : Nat), v = .slice a n cap ∧ n ≤ maxLen ∧ SumsAt a (blk a) (ofs a) n (sumsAt w (blk a) (ofs a)) w := by
  have hC : Try.prog.cellsOf 148 = 3 := by kernel_rfl
  rcases DataW.trod_slice Try.underlying27 h with ⟨hcs, _⟩ | ⟨a, n, cap, elems, rest, m, _, hcs, _, hb, hl, hm, hlen, hel, _, _⟩
  · simp at hcs
    exact ⟨none, 0, 0, hcs, Nat.zero_le _, ⟨fun h => absurd h (by omega), fun h => absurd h (by omega), fun k hk => absurd hk (by omega), fun k hk => absurd hk (by omega), fun k hk => absurd hk (by omega)⟩⟩
  · simp at hcs
    have each : ∀ k, k < n → ∃ (z0 : Bool) (z1 : Int) (z2 : Int), w.cell? ((a.add (k * 3)).add 0) = some (.bool z0) ∧ w.cell? ((a.add (k * 3)).add 1) = some (.int .i64 z1) ∧ w.cell? ((a.add (k * 3)).add 2) = some (.int .i64 z2) := by
      intro k hk
      have h1 := hel k hk
      rw [hC, List.getElem?_eq_getElem (by omega), Option.bind_eq_some_iff] at h1
      obtain ⟨cs, hc1, hc2⟩ := h1
      obtain ⟨hb', hln, hcell⟩ := World.cells?_some hc1
      match cs, hln with
      | [c0, c1, c2], _ =>
        have d0 := hcell 0 (by omega)
        have d1 := hcell 1 (by omega)
        have d2 := hcell 2 (by omega)
        obtain ⟨z0, z1, z2, rfl, rfl, rfl⟩ := open_sum1 hc2
        exact ⟨z0, z1, z2, d0, d1, d2⟩
    have hsp : 0 < n → a.spot = none := fun h0 => by
      obtain ⟨_, _, _, hz, _⟩ := each 0 h0
      exact (spot_none hz : _)
    refine ⟨some a, n, cap, hcs, Nat.le_trans hl hm, ⟨fun h0 => ?_, fun h0 => ?_, fun k hk => ?_, fun k hk => ?_, fun k hk => ?_⟩⟩
    · have := hsp h0
      obtain ⟨b, o, s⟩ := a
      simp only at this
      subst this
      rfl
    · obtain ⟨_, _, _, hz, _⟩ := each 0 h0
      exact block_lt hz
    all_goals
      have := hsp (by omega)
      obtain ⟨z0, z1, z2, y0, y1, y2⟩ := each k hk
      obtain ⟨b, o, s⟩ := a
      simp only at this
      subst this
      have x0 : w.cell? ⟨b, o + k * 3, none⟩ = some (.bool z0) := by simpa only [add_mk, Nat.add_zero] using y0
      have x1 : w.cell? ⟨b, o + k * 3 + 1, none⟩ = some (.int .i64 z1) := by simpa only [add_mk, Nat.add_zero] using y1
      have x2 : w.cell? ⟨b, o + k * 3 + 2, none⟩ = some (.int .i64 z2) := by simpa only [add_mk, Nat.add_zero] using y2
      first
        | (simp only [sumsAt, blk, ofs, x0, bolC]; done)
        | (simp only [sumsAt, blk, ofs, x1, intC]; done)
        | (simp only [sumsAt, blk, ofs, x2, intC]; done)
/-- A sum is ok. -/
def smOk (s : Sm) : Bool := match s.on with
  | false => decide (s.lo = 0) && decide (s.hi = 0)
  | true => itvOk s.lo s.hi
def smsOk (U : Nat → Sm) : Nat → Bool
  | 0 => true
  | k + 1 => smsOk U k && smOk (U k)
theorem smsOk_false {U : Nat → Sm} {k n : Nat} (h : k < n) (hk : smOk (U k) = false) : smsOk U n = false := by
  induction n with
  | zero => omega
  | succ n ih =>
    rcases (show k < n ∨ k = n by omega) with h' | rfl
    · simp [smsOk, ih h']
    · simp [smsOk, hk]
def sumsOk (P : Nat → Proc) (m n : Nat) (U : Nat → Sm) : Bool := prgOk P m && (decide (n = m) && smsOk U n)
theorem sumS (s : Sm) (w : World) :
    Calls Try.prog 44 #[.agg #[.bool s.on, .int .i64 s.lo, .int .i64 s.hi]] w fun e w' => e = .returned (.bool (smOk s)) ∧ Below w.heap.size w w' := by
  obtain ⟨on, lo, hi⟩ := s
  have b0 : Below w.heap.size w (w.alloc (.cells #[.bool on, .int .i64 lo, .int .i64 hi] 92)) := (Below.refl _ _).alloc (Nat.le_refl _) _
  cases on
  · go_enter Try.func44, Try.ntmps44
    go_wp2_with fail
    refine (noneS _ _ _).mono ?_
    rintro e w1 ⟨rfl, hb⟩
    go_wp2_with fail
    go_ret
    exact ⟨rfl, below_tr b0 hb⟩
  · go_enter Try.func44, Try.ntmps44
    go_wp2_with fail
    refine (itvOkS _ _ _).mono ?_
    rintro e w1 ⟨rfl, hb⟩
    go_wp2_with fail
    go_ret
    exact ⟨rfl, below_tr b0 hb⟩
theorem sumI (s : Sm) (w : World) :
    Calls Try.prog 52 #[.agg #[.bool s.on, .int .i64 s.lo, .int .i64 s.hi]] w fun e w' => e = .returned (.bool (smOk s)) ∧ Below w.heap.size w w' := by
  obtain ⟨on, lo, hi⟩ := s
  have b0 : Below w.heap.size w (w.alloc (.cells #[.bool on, .int .i64 lo, .int .i64 hi] 92)) := (Below.refl _ _).alloc (Nat.le_refl _) _
  cases on
  · by_cases h1 : lo = 0
    · by_cases h2 : hi = 0
      · subst h1 h2
        go_enter Try.func52, Try.ntmps52
        go_wp2_with fail
        go_ret
        exact ⟨rfl, b0⟩
      · subst h1
        go_enter Try.func52, Try.ntmps52
        go_wp2_with fail
        go_ret
        exact ⟨ret_bool (by simp [smOk, h2]), b0⟩
    · go_enter Try.func52, Try.ntmps52
      go_wp2_with fail
      go_ret
      exact ⟨ret_bool (by simp [smOk, h1]), b0⟩
  · go_enter Try.func52, Try.ntmps52
    go_wp2_with fail
    refine (itvOkI _ _ _).mono ?_
    rintro e w1 ⟨rfl, hb⟩
    go_wp2_with fail
    go_ret
    exact ⟨rfl, below_tr b0 hb⟩
end Go.Proofs.Ytdpkbbbfnmneiaa
