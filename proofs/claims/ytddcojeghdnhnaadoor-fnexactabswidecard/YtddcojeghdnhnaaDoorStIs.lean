/- A state that is answered: its list lies in memory of its own. Held against another one, marked, looked for. What copies a list of four bounds; an arrival's set and state. -/
import Derived.Test.YtddcojeghdnhnaaDoorArr
import Derived.Test.YtddcojeghdnhnaaDoorPens
import Derived.Deep.AppendSrc
import Derived.Lib.SliceRun
namespace Go.Proofs.YtddcojeghdnhnaaDoor
open Go.ChangeShapes Go.WideShapes Go.ChangeAt Go.RowKit
set_option linter.unusedVariables false

/-- A list of bounds in a block of its own, at or behind B. -/
structure BndsIs (B n : Nat) (lo hi : Nat → Int) (a : Option Addr) (g : Nat) (W : World) : Prop where
  own : 0 < n → B ≤ g
  free : 0 < n → ∀ i, W.frozen? ⟨g, i, none⟩ = false
  at_ : BndsAt a g 0 n lo hi W
theorem BndsIs.next {B n : Nat} {lo hi : Nat → Int} {a : Option Addr} {g : Nat} {W W' : World} (h : BndsIs B n lo hi a g W) (hb : Below W.heap.size W W') : BndsIs B n lo hi a g W' :=
  ⟨h.own, fun hn i => (hb.frozen (p := ⟨g, i, none⟩) (h.at_.lt hn)).trans (h.free hn i), h.at_.next hb⟩
theorem BndsIs.base {B C n : Nat} {lo hi : Nat → Int} {a : Option Addr} {g : Nat} {W : World} (h : BndsIs B n lo hi a g W) (hC : C ≤ B) : BndsIs C n lo hi a g W :=
  ⟨fun hn => Nat.le_trans hC (h.own hn), h.free, h.at_⟩
theorem BndsIs.set {B n : Nat} {lo hi : Nat → Int} {a : Option Addr} {g : Nat} {W : World} {G o : Nat} {vs : List Value} (h : BndsIs B n lo hi a g W) (hne : G < B) : BndsIs B n lo hi a g (setAll G o vs W) := by
  by_cases hn : 0 < n
  · have := h.own hn
    exact ⟨h.own, fun _ i => (setAll_frozen _ _ _ _).trans (h.free hn i), h.at_.set (by omega)⟩
  · exact ⟨fun e => absurd e hn, fun e => absurd e hn, ⟨fun e => absurd e hn, fun e => absurd e hn, fun k hk => by omega, fun k hk => by omega⟩⟩
/-- A state, as answered. -/
def StIs (B : Nat) (on : Bool) (n : Nat) (lo hi : Nat → Int) (c d : Int) (v : Value) (W : World) : Prop := ∃ (a : Option Addr) (g cap : Nat), v = .agg #[.bool on, .slice a n cap, .int .i64 c, .int .i64 d] ∧ BndsIs B n lo hi a g W
theorem StIs.next {B : Nat} {on : Bool} {n : Nat} {lo hi : Nat → Int} {c d : Int} {v : Value} {W W' : World} (h : StIs B on n lo hi c d v W) (hb : Below W.heap.size W W') : StIs B on n lo hi c d v W' := by
  obtain ⟨a, g, cap, e, h1⟩ := h
  exact ⟨a, g, cap, e, h1.next hb⟩
theorem BndsIs.nil0 (B : Nat) (lo hi : Nat → Int) (W : World) : BndsIs B 0 lo hi none 0 W := ⟨fun h => absurd h (by omega), fun h => absurd h (by omega), ⟨fun h => absurd h (by omega), fun h => absurd h (by omega), fun k hk => absurd hk (by omega), fun k hk => absurd hk (by omega)⟩⟩
set_option maxRecDepth 10000 in
set_option maxHeartbeats 8000000 in
theorem eqBndsG (a : Option Addr) (g o cap : Nat) (a' : Option Addr) (h o' cap' n : Nat) (lo hi : Nat → Int) (w : World) (hbig : n ≤ 1048576) (h1 : BndsAt a g o n lo hi w) (h2 : BndsAt a' h o' n lo hi w) :
    Calls Tryd.prog 22 #[.slice a n cap, .slice a' n cap'] w fun e w' => e = .returned (.bool true) ∧ Below w.heap.size w w' := by
  go_enter Tryd.func22, Tryd.ntmps22
  go_wp2
  go_loopw [5] (fun i wr => ∃ k : Nat, k ≤ n ∧ i = .int .i64 k ∧ Below w.heap.size w wr) (fun i _ => n - (intOf i).toNat)
  case atStart => exact ⟨0, Nat.zero_le _, rfl, Below.refl _ _⟩
  case round =>
    obtain ⟨k, hk, rfl, hB⟩ := hrel
    by_cases hlt : k < n
    · have ea := h1.at_ (by omega)
      have eb := h2.at_ (by omega)
      subst ea eb
      have t1 : ((k : Int)).toNat = k := by omega
      have t2 : (0 : Int) ≤ (k : Int) := by omega
      have t3 : (k : Int) < (n : Int) := by omega
      have hS0 : Below w.heap.size w wr.drew := hB.drew
      clear hB
      go_wp2_with fail
      refine region_inv3 [(0, 17), (1, 18), (2, 19), (3, 20), (4, 21), (5, 22), (6, 23), (7, 24), (8, 25), (9, 26)]
        (fun j vx _ => match j with
          | 0 => Is (.slice (some ⟨g, o, none⟩) n cap) vx
          | 1 => Is (.int .i64 k) vx
          | 2 => Is (.pointer (some ⟨g, o + k * 2, none⟩)) vx
          | 3 => Is (.agg #[.int .i64 (lo k), .int .i64 (hi k)]) vx
          | 4 => Is (.slice (some ⟨h, o', none⟩) n cap') vx
          | 5 => Is (.int .i64 k) vx
          | 6 => Is (.pointer (some ⟨h, o' + k * 2, none⟩)) vx
          | 7 => Is (.agg #[.int .i64 (lo k), .int .i64 (hi k)]) vx
          | 8 => Is (.bool true) vx
          | 9 => Is (.bool false) vx
          | _ => True)
        (fun _ W => Below w.heap.size w W) TT
        (by kernel_rfl) (by kernel_rfl) (by kernel_rfl) (by kernel_rfl) (by kernel_rfl) rfl hS0 (fun i j v W W' _ h _ => h) ?_ ?_
      · intro i L vals W hi' hφ hS hL hd
        have hi2 : i < 10 := hi'
        clear hi'
        rcases (show i = 0 ∨ i = 1 ∨ i = 2 ∨ i = 3 ∨ i = 4 ∨ i = 5 ∨ i = 6 ∨ i = 7 ∨ i = 8 ∨ i = 9 by omega) with rfl | rfl | rfl | rfl | rfl | rfl | rfl | rfl | rfl | rfl
        · refine wpAt_of rfl rfl ?_
          simp only [frOf, Act.put]
          go_wp2_with fail
          first | exact ⟨trivial, rfl, trivial, hS⟩ | exact ⟨rfl, trivial, hS⟩
        · refine wpAt_of rfl rfl ?_
          simp only [frOf, Act.put]
          go_wp2_with fail
          first | exact ⟨trivial, rfl, trivial, hS⟩ | exact ⟨rfl, trivial, hS⟩
        · have k0 : vals 0 = .slice (some ⟨g, o, none⟩) n cap := hφ 0 (hd 0 (by decide))
          have k1 : vals 1 = .int .i64 k := hφ 1 (hd 1 (by decide))
          refine wpAt_of rfl rfl ?_
          simp only [frOf, Act.put]
          go_wp2_with fail
          first | exact ⟨trivial, rfl, trivial, hS⟩ | exact ⟨rfl, trivial, hS⟩
        · have k2 : vals 2 = .pointer (some ⟨g, o + k * 2, none⟩) := hφ 2 (hd 2 (by decide))
          have dd := h1.next hS
          have d0 := dd.lo k hlt
          have d1 := dd.hi k hlt
          clear dd
          refine wpAt_of rfl rfl ?_
          simp only [frOf, Act.put]
          go_wp2_with fail
          first | exact ⟨trivial, rfl, trivial, hS⟩ | exact ⟨rfl, trivial, hS⟩ | exact ⟨trivial, rfl, trivial⟩ | exact ⟨rfl, trivial⟩ | exact rfl
        · refine wpAt_of rfl rfl ?_
          simp only [frOf, Act.put]
          go_wp2_with fail
          first | exact ⟨trivial, rfl, trivial, hS⟩ | exact ⟨rfl, trivial, hS⟩
        · refine wpAt_of rfl rfl ?_
          simp only [frOf, Act.put]
          go_wp2_with fail
          first | exact ⟨trivial, rfl, trivial, hS⟩ | exact ⟨rfl, trivial, hS⟩
        · have k4 : vals 4 = .slice (some ⟨h, o', none⟩) n cap' := hφ 4 (hd 4 (by decide))
          have k5 : vals 5 = .int .i64 k := hφ 5 (hd 5 (by decide))
          refine wpAt_of rfl rfl ?_
          simp only [frOf, Act.put]
          go_wp2_with fail
          first | exact ⟨trivial, rfl, trivial, hS⟩ | exact ⟨rfl, trivial, hS⟩
        · have k6 : vals 6 = .pointer (some ⟨h, o' + k * 2, none⟩) := hφ 6 (hd 6 (by decide))
          have dd := h2.next hS
          have d0 := dd.lo k hlt
          have d1 := dd.hi k hlt
          clear dd
          refine wpAt_of rfl rfl ?_
          simp only [frOf, Act.put]
          go_wp2_with fail
          first | exact ⟨trivial, rfl, trivial, hS⟩ | exact ⟨rfl, trivial, hS⟩ | exact ⟨trivial, rfl, trivial⟩ | exact ⟨rfl, trivial⟩ | exact rfl
        · have k3 : vals 3 = .agg #[.int .i64 (lo k), .int .i64 (hi k)] := hφ 3 (hd 3 (by decide))
          have k7 : vals 7 = .agg #[.int .i64 (lo k), .int .i64 (hi k)] := hφ 7 (hd 7 (by decide))
          refine wpAt_of rfl rfl ?_
          simp only [frOf, Act.put]
          go_wp2_with fail
          refine (eqItv _ _ _ _ _).mono ?_
          rintro e W' ⟨rfl, hb⟩
          simp only [beq_self_eq_true, Bool.and_self]
          go_wp2_with fail
          first | exact ⟨trivial, rfl, trivial, below_tr hS hb⟩ | exact ⟨rfl, trivial, below_tr hS hb⟩
        · have k8 : vals 8 = .bool true := hφ 8 (hd 8 (by decide))
          refine wpAt_of rfl rfl ?_
          simp only [frOf, Act.put]
          go_wp2_with fail
          first | exact ⟨trivial, rfl, trivial, hS⟩ | exact ⟨rfl, trivial, hS⟩
      · intro L vals W hall hφ hS
        have k0 : vals 0 = .slice (some ⟨g, o, none⟩) n cap := hφ 0 (by decide)
        have k1 : vals 1 = .int .i64 k := hφ 1 (by decide)
        have k2 : vals 2 = .pointer (some ⟨g, o + k * 2, none⟩) := hφ 2 (by decide)
        have k3 : vals 3 = .agg #[.int .i64 (lo k), .int .i64 (hi k)] := hφ 3 (by decide)
        have k4 : vals 4 = .slice (some ⟨h, o', none⟩) n cap' := hφ 4 (by decide)
        have k5 : vals 5 = .int .i64 k := hφ 5 (by decide)
        have k6 : vals 6 = .pointer (some ⟨h, o' + k * 2, none⟩) := hφ 6 (by decide)
        have k7 : vals 7 = .agg #[.int .i64 (lo k), .int .i64 (hi k)] := hφ 7 (by decide)
        have k8 : vals 8 = .bool true := hφ 8 (by decide)
        have k9 : vals 9 = .bool false := hφ 9 (by decide)
        simp only [frOf, Act.put, List.setIfInBounds_toArray, List.set_cons_succ, List.set_cons_zero, k0, k1, k2, k3, k4, k5, k6, k7, k8, k9]
        clear k0 k1 k2 k3 k4 k5 k6 k7 k8 k9
        clear hall hφ hS0
        go_wp2_with fail
        go_roundw
        case rel => exact ⟨k + 1, by omega, by go_num, hS⟩
        case measure => simp [intOf]; omega
    · obtain rfl : k = n := by omega
      clear h1 h2
      go_wp2_with fail
      go_ret
      exact ⟨rfl, hB⟩
set_option maxHeartbeats 2000000 in
theorem eqAbsG (on : Bool) (a : Option Addr) (g o cap : Nat) (a' : Option Addr) (h o' cap' n : Nat) (lo hi : Nat → Int) (c d : Int) (w : World) (hn : n ≤ 1048576) (h1 : BndsAt a g o n lo hi w) (h2 : BndsAt a' h o' n lo hi w) :
    Calls Tryd.prog 8 #[.agg #[.bool on, .slice a n cap, .int .i64 c, .int .i64 d], .agg #[.bool on, .slice a' n cap', .int .i64 c, .int .i64 d]] w fun e w' => e = .returned (.bool true) ∧ Below w.heap.size w w' := by
  have H0 : HeldL w [(w.heap.size + 1, [Value.bool on, .slice a' n cap', .int .i64 c, .int .i64 d]), (w.heap.size, [Value.bool on, .slice a n cap, .int .i64 c, .int .i64 d])] ((w.alloc (.cells #[.bool on, .slice a n cap, .int .i64 c, .int .i64 d] 31)).alloc (.cells #[.bool on, .slice a' n cap', .int .i64 c, .int .i64 d] 31)) := by
    have e1 : w.heap.size + 1 = (w.alloc (.cells #[.bool on, .slice a n cap, .int .i64 c, .int .i64 d] 31)).heap.size := by simp
    rw [e1]
    exact HeldL.newL (vs := [Value.bool on, .slice a' n cap', .int .i64 c, .int .i64 d]) (HeldL.newL (vs := [Value.bool on, .slice a n cap, .int .i64 c, .int .i64 d]) (HeldL.nil w))
  have I1 := h1.next H0.below
  have I2 := h2.next H0.below
  clear h1 h2
  go_enter Tryd.func8, Tryd.ntmps8
  go_wp2_with fail
  refine (eqBndsG _ _ _ _ _ _ _ _ _ _ _ _ hn I1 I2).mono ?_
  rintro e w1 ⟨rfl, hb⟩
  have H1 := H0.next hb
  clear H0 I1 I2 hb
  have a2 := H1.cell (List.mem_cons_of_mem _ List.mem_cons_self) (i := 2) rfl
  have a3 := H1.cell (List.mem_cons_of_mem _ List.mem_cons_self) (i := 3) rfl
  have b2 := H1.cell List.mem_cons_self (i := 2) rfl
  have b3 := H1.cell List.mem_cons_self (i := 3) rfl
  dsimp only at a2 a3 b2 b3
  go_wp2_with fail
  refine (eqItv _ _ _ _ _).mono ?_
  rintro e w2 ⟨rfl, hb⟩
  have H2 := H1.next hb
  clear H1 hb a2 a3 b2 b3
  simp only [beq_self_eq_true, Bool.and_self]
  go_wp2_with fail
  go_ret
  exact ⟨rfl, H2.below⟩

/-- The cells of a list of bounds, to be marked. -/
theorem BndsIs.pen {B n : Nat} {lo hi : Nat → Int} {a : Option Addr} {g : Nat} {W : World} (h : BndsIs B n lo hi a g W) : Pen (fun j => ⟨g, j, none⟩) (n * 2) B W := by
  refine ⟨fun i j _ _ e => by injection e, fun i hi => ⟨h.own (by omega), h.at_.lt (by omega)⟩, fun i hi => ?_, fun i hi => h.free (by omega) i⟩
  rcases (show i % 2 = 0 ∨ i % 2 = 1 by omega) with e | e
  · have := h.at_.lo (i / 2) (by omega)
    rw [Nat.zero_add, show i / 2 * 2 = i by omega] at this
    simp only [this]; rfl
  · have := h.at_.hi (i / 2) (by omega)
    rw [Nat.zero_add, show i / 2 * 2 + 1 = i by omega] at this
    simp only [this]; rfl
set_option maxHeartbeats 4000000 in
theorem markBndsP (ad : Nat → Addr) (N B s n b cap : Nat) (a : Option Addr) (k0 : Int) (w : World) (hk : k0 = (s : Int) + 1) (hN : N ≤ 100000000) (hs : s + n * 2 ≤ N) (hat : 0 < n → a = some ⟨b, 0, none⟩) (ha : ∀ j, j < n * 2 → ad (s + j) = ⟨b, j, none⟩) (hP : Pen ad N B w) (hM : Mk ad s w) :
    Calls Tryd.prog 24 #[.slice a n cap, .int .i64 k0] w fun e w' => e = .returned (.int .i64 ((s : Int) + n * 2 + 1)) ∧ Mk ad (s + n * 2) w' ∧ Pen ad N B w' ∧ Wrote ad N B w w' := by
  subst hk
  go_enter Tryd.func24, Tryd.ntmps24
  go_wp2
  go_loopw [1, 5] (fun q i wr => ∃ k : Nat, k ≤ n ∧ i = .int .i64 k ∧ q = .int .i64 ((s : Int) + k * 2 + 1) ∧ Mk ad (s + k * 2) wr ∧ Wrote ad N B w wr) (fun _ i _ => n - (intOf i).toNat)
  case atStart => exact ⟨0, Nat.zero_le _, rfl, by simp, hM, Wrote.refl _ _ _ _⟩
  case round =>
    obtain ⟨k, hk, rfl, rfl, hMk, hW⟩ := hrel
    have hP' := hP.next hW
    by_cases hlt : k < n
    · have e1 := hat (by omega)
      have hak := ha (k * 2) (by omega)
      have hak1 := ha (k * 2 + 1) (by omega)
      have hsk : s + k * 2 < N := by omega
      have hsk1 : s + k * 2 + 1 < N := by omega
      rw [← Nat.add_assoc] at hak1
      obtain ⟨u, hu⟩ := Option.isSome_iff_exists.1 (hP'.there (s + k * 2) hsk)
      obtain ⟨u1, hu1⟩ := Option.isSome_iff_exists.1 (hP'.there (s + k * 2 + 1) hsk1)
      have f1 := hP'.free (s + k * 2) hsk
      have f2 := hP'.free (s + k * 2 + 1) hsk1
      rw [hak] at hu f1
      rw [hak1] at hu1 f2
      have hM1 : Mk ad (s + k * 2 + 1) (wr.setCell ⟨b, k * 2, none⟩ (.int .i64 ((s : Int) + k * 2 + 1))) := hMk.one hP' hsk hak (by push_cast; rfl)
      have hW1 : Wrote ad N B w (wr.setCell ⟨b, k * 2, none⟩ (.int .i64 ((s : Int) + k * 2 + 1))) := hW.trans (Wrote.one hP' hsk hak _)
      have hP1 := hP.next hW1
      have hMS : Hid (Mk ad (s + k * 2 + 1 + 1) ((wr.setCell ⟨b, k * 2, none⟩ (.int .i64 ((s : Int) + k * 2 + 1))).setCell ⟨b, k * 2 + 1, none⟩ (.int .i64 ((s : Int) + k * 2 + 1 + 1)))) := hM1.one hP1 hsk1 hak1 (by push_cast; rfl)
      have hWS : Hid (Wrote ad N B w ((wr.setCell ⟨b, k * 2, none⟩ (.int .i64 ((s : Int) + k * 2 + 1))).setCell ⟨b, k * 2 + 1, none⟩ (.int .i64 ((s : Int) + k * 2 + 1 + 1)))) := hW1.trans (Wrote.one hP1 hsk1 hak1 _)
      have t1 : ((k : Int)).toNat = k := by omega
      have t2 : (0 : Int) ≤ (k : Int) := by omega
      have t3 : (k : Int) < (n : Int) := by omega
      subst e1
      clear hP' hM hP hMk hW hat ha hM1 hW1 hP1
      go_wp2
      go_roundw
      case rel => exact ⟨k + 1, by omega, by go_num, by refine congrArg (Value.int .i64) ?_; push_cast; omega, by have := hMS.out; rwa [show s + k * 2 + 1 + 1 = s + (k + 1) * 2 by omega] at this, hWS.out⟩
      case measure => simp [intOf]; omega
    · obtain rfl : k = n := by omega
      clear hM hP hat ha
      go_wp2
      go_ret
      exact ⟨rfl, hMk, hP', hW⟩
set_option maxHeartbeats 4000000 in
theorem heldBndsP (ad : Nat → Addr) (N s n b cap : Nat) (a : Option Addr) (k0 : Int) (w : World) (hk : k0 = (s : Int) + 1) (hN : N ≤ 100000000) (hs : s + n * 2 ≤ N) (hat : 0 < n → a = some ⟨b, 0, none⟩) (ha : ∀ j, j < n * 2 → ad (s + j) = ⟨b, j, none⟩) (hM : Mk ad N w) :
    Calls Tryd.prog 25 #[.slice a n cap, .int .i64 k0] w fun e w' => e = .returned (.int .i64 ((s : Int) + n * 2 + 1)) ∧ Below w.heap.size w w' := by
  subst hk
  go_enter Tryd.func25, Tryd.ntmps25
  go_wp2
  go_loop [1, 5] (fun q i => ∃ k : Nat, k ≤ n ∧ i = .int .i64 k ∧ q = .int .i64 ((s : Int) + k * 2 + 1)) (fun _ i => n - (intOf i).toNat)
  case atStart => exact ⟨0, Nat.zero_le _, rfl, by simp⟩
  case round =>
    obtain ⟨k, hk, rfl, rfl⟩ := hrel
    by_cases hlt : k < n
    · have e1 := hat (by omega)
      have c1 := hM (s + k * 2) (by omega)
      have c2 := hM (s + k * 2 + 1) (by omega)
      rw [ha (k * 2) (by omega)] at c1
      rw [Nat.add_assoc s (k * 2) 1, ha (k * 2 + 1) (by omega), ← Nat.add_assoc] at c2
      push_cast at c1 c2
      have t1 : ((k : Int)).toNat = k := by omega
      have t2 : (0 : Int) ≤ (k : Int) := by omega
      have t3 : (k : Int) < (n : Int) := by omega
      subst e1
      clear hM hat ha
      go_wp2
      go_round
      case rel => exact ⟨k + 1, by omega, by go_num, by refine congrArg (Value.int .i64) ?_; push_cast; omega⟩
      case measure => simp [intOf]; omega
    · obtain rfl : k = n := by omega
      clear hM hat ha
      go_wp2
      go_ret
      exact ⟨rfl, Below.refl _ _⟩

/-- An append whose run is known. -/
theorem wpList_append_run {P : Program} {w : World} {ops : Array Oper} {rest : List Oper} {o : Oper} {a : Act} {Q : Exit → Act → World → Prop} (hgd : o.guard = none) (d s : Operand) (dT sT : TypeId)
    (ho : o.op = .call { callee := .builtin .append, args := #[d, s], argTypes := #[dT, sT] }) (x y v' : Value) (w' : World) (hd : a.eval d = x) (hs : a.eval s = y)
    (hrun : ∀ ty, (Builtin.append_ #[dT, sT] ty #[x, y]).run P w = .ok v' w') (h : wpList P ops Q rest (a.put o.dst v') w') : wpList P ops Q (o :: rest) a w := by
  refine wpList_plain hgd fun K hK => ?_
  have hr := hrun o.type
  unfold Oper.wp
  simp [execOp, ho, resolve, invoke, builtin, hd, hs, hr, Result.andThen]
  exact hK _ _ h
set_option maxRecDepth 10000 in
set_option maxHeartbeats 4000000 in
theorem cloneI (b off cap : Nat) (lo hi : Nat → Int) (w : World) (hC : BndsAt (some ⟨b, off, none⟩) b off 4 lo hi w) :
    Calls Tryd.prog 32 #[.slice (some ⟨b, off, none⟩) 4 cap] w fun e w' => ∃ g c : Nat, e = .returned (.slice (some ⟨g, 0, none⟩) 4 c) ∧ BndsIs w.heap.size 4 lo hi (some ⟨g, 0, none⟩) g w' ∧ Below w.heap.size w w' := by
  have b0 : Below w.heap.size w (w.alloc (.cells #[] 29)) := (Below.refl _ _).alloc (Nat.le_refl _) _
  have hI := hC.next b0
  have s0 := hI.lo 0 (by omega)
  have s1 := hI.hi 0 (by omega)
  have s2 := hI.lo 1 (by omega)
  have s3 := hI.hi 1 (by omega)
  have s4 := hI.lo 2 (by omega)
  have s5 := hI.hi 2 (by omega)
  have s6 := hI.lo 3 (by omega)
  have s7 := hI.hi 3 (by omega)
  simp only [Nat.zero_mul, Nat.one_mul, Nat.reduceMul, Nat.add_assoc, Nat.reduceAdd, Nat.add_zero] at s0 s1 s2 s3 s4 s5 s6 s7
  obtain ⟨i, hi0, hzz⟩ := Option.map_eq_some_iff.1 (show (Tryd.prog.info? 29).map (fun i => (i.zero, i.size, i.bytes)) = some (some (.agg #[.int .i64 0, .int .i64 0]), 2, 16) by kernel_rfl)
  simp only [Prod.mk.injEq] at hzz
  obtain ⟨hz, hs2, hb16⟩ := hzz
  have hsrc : Src Tryd.prog i.size 28 (.slice (some ⟨b, off, none⟩) 4 cap) 4 [.int .i64 (lo 0), .int .i64 (hi 0), .int .i64 (lo 1), .int .i64 (hi 1), .int .i64 (lo 2), .int .i64 (hi 2), .int .i64 (lo 3), .int .i64 (hi 3)] (w.alloc (.cells #[] 29)) := by
    rw [hs2]
    exact Src.ofSlice _ Tryd.underlying28 ⟨b, off, none⟩ 4 cap [.int .i64 (lo 0), .int .i64 (hi 0), .int .i64 (lo 1), .int .i64 (hi 1), .int .i64 (lo 2), .int .i64 (hi 2), .int .i64 (lo 3), .int .i64 (hi 3)] rfl (fun j v hj => by
      rw [addr_mk]
      match j, hj with
      | 0, hj => simp at hj; subst hj; exact s0
      | 1, hj => simp at hj; subst hj; exact s1
      | 2, hj => simp at hj; subst hj; exact s2
      | 3, hj => simp at hj; subst hj; exact s3
      | 4, hj => simp at hj; subst hj; exact s4
      | 5, hj => simp at hj; subst hj; exact s5
      | 6, hj => simp at hj; subst hj; exact s6
      | 7, hj => simp at hj; subst hj; exact s7
      | j + 8, hj => simp at hj) (by simp [Value.oneCell'])
  have hap := fun ty => run_append_grow_src (P := Tryd.prog) (w.alloc (.cells #[] 29)) 28 28 ty 29 i _ Tryd.underlying28 hi0 hz (some ⟨w.heap.size, 0, none⟩) 0 0 []
    (run_firstCells_some _ i.size 0 ⟨w.heap.size, 0, none⟩ 0 0 [] (by simp) (fun j u hj => by simp at hj)) (.slice (some ⟨b, off, none⟩) 4 cap) 4 _ hsrc (by decide) (by decide) (by rw [hb16]; decide)
  simp only [List.nil_append, Nat.zero_add] at hap
  obtain ⟨cp, hcp⟩ : ∃ c, c = grownCap (w.alloc (.cells #[] 29)) 4 0 29 := ⟨_, rfl⟩
  rw [← hcp] at hap
  clear hcp hsrc hI s0 s1 s2 s3 s4 s5 s6 s7
  obtain ⟨cells, hcells⟩ : ∃ x : Array Value, x = ([.int .i64 (lo 0), .int .i64 (hi 0), .int .i64 (lo 1), .int .i64 (hi 1), .int .i64 (lo 2), .int .i64 (hi 2), .int .i64 (lo 3), .int .i64 (hi 3)] : List Value).toArray ++ Builtin.zeroCells (Value.cells (.agg #[.int .i64 0, .int .i64 0])) (cp - 4) := ⟨_, rfl⟩
  rw [← hcells] at hap
  have hget : ∀ j v, ([.int .i64 (lo 0), .int .i64 (hi 0), .int .i64 (lo 1), .int .i64 (hi 1), .int .i64 (lo 2), .int .i64 (hi 2), .int .i64 (lo 3), .int .i64 (hi 3)] : List Value)[j]? = some v → cells[j]? = some v := fun j v hj => by
    rw [hcells, Array.getElem?_append_left (by simp; have := (List.getElem?_eq_some_iff.1 hj).1; simpa using this)]
    simpa using hj
  clear hcells
  have hk : Below w.heap.size w ((w.alloc (.cells #[] 29)).drew.alloc (.cells cells 29)) := (b0.drew).alloc (by simp) _
  have hnil : ∀ W, (binOp .eql 28 (.slice (some ⟨b, off, none⟩) 4 cap) (.slice none 0 0)).run Tryd.prog W = .ok (.bool false) W := fun W => Lib.run_eql_slice_nil W _ _ _ _ _ _ _ Tryd.underlying28
  go_enter Tryd.func32, Tryd.ntmps32
  go_wp2_with (at_builtin; refine wpList_append_run rfl (.tmp 5) (.tmp 6) 28 28 rfl _ _ _ _ rfl rfl hap ?_)
  go_ret
  have hc : ∀ j v, ([.int .i64 (lo 0), .int .i64 (hi 0), .int .i64 (lo 1), .int .i64 (hi 1), .int .i64 (lo 2), .int .i64 (hi 2), .int .i64 (lo 3), .int .i64 (hi 3)] : List Value)[j]? = some v → ((w.alloc (.cells #[] 29)).drew.alloc (.cells cells 29)).cell? ⟨w.heap.size + 1, j, none⟩ = some v := fun j v hj => by
    have e : w.heap.size + 1 = (w.alloc (.cells #[] 29)).drew.heap.size := by simp
    rw [e]
    unfold World.cell?
    rw [heap_alloc_new]
    simpa using hget j v hj
  have hf : ∀ i, ((w.alloc (.cells #[] 29)).drew.alloc (.cells cells 29)).frozen? ⟨w.heap.size + 1, i, none⟩ = false := fun i => by
    have e : w.heap.size + 1 = (w.alloc (.cells #[] 29)).drew.heap.size := by simp
    rw [e]
    exact World.frozen?_alloc_new _ _ _ _
  refine ⟨w.heap.size + 1, cp, rfl, ⟨fun _ => by omega, fun _ => hf, ⟨fun _ => rfl, fun _ => by simp, fun k hk => ?_, fun k hk => ?_⟩⟩, hk⟩
  · rcases (show k = 0 ∨ k = 1 ∨ k = 2 ∨ k = 3 by omega) with rfl | rfl | rfl | rfl
    · exact hc 0 _ rfl
    · exact hc 2 _ rfl
    · exact hc 4 _ rfl
    · exact hc 6 _ rfl
  · rcases (show k = 0 ∨ k = 1 ∨ k = 2 ∨ k = 3 by omega) with rfl | rfl | rfl | rfl
    · exact hc 1 _ rfl
    · exact hc 3 _ rfl
    · exact hc 5 _ rfl
    · exact hc 7 _ rfl
end Go.Proofs.YtddcojeghdnhnaaDoor
