/- AbsFails, the model's: what is plainly asked, l7Given, l7Fit, each kind of step. -/
import Derived.Test.YtdpkbbbfnmneiaaSums
import Derived.Test.YtdpkbbbfnmneiaaMk2
import Derived.Test.YtdpkbbbfnmneiaaGiven
import Derived.Test.YtdpkbbbfnmneiaaItvNot
import Derived.Test.YtdpkbbbfnmneiaaInsS5
import Derived.BigGuard
namespace Go.Proofs.Ytdpkbbbfnmneiaa
open Go.ChangeShapes Go.WideShapes Go.ChangeAt Go.RowKit
set_option linter.unusedVariables false

def canStep (P : Nat → Proc) (m : Nat) (o d a b r l h t : Int) (on : Bool) (n : Nat) (lo hi : Nat → Int) (c u : Int) : Bool :=
  prgOk P m && (insOk o d a b r l h t m 10 && (absOk on n lo hi c u && on))
def failB (o r : Int) (ai bi ti : Nat) (l h : Nat → Int) (P : Nat → Proc) : Bool :=
  if o = 4 then itvHas (l bi) (h bi) 0
  else if o = 6 then !itvIn (l ai) (h ai) 0 3
  else if o = 7 then !itvIn (l ai) (h ai) 0 3
  else if o = 10 then !itvIn (l ai) (h ai) (P ti).lo (P ti).hi
  else if o = 11 then (itvNot r (l ai) (h ai) (l bi) (h bi)).ok
  else false
def absFails (P : Nat → Proc) (m : Nat) (o d a b r l h t : Int) (on : Bool) (n : Nat) (lo hi : Nat → Int) (c u : Int) : Bool :=
  canStep P m o d a b r l h t on n lo hi c u && failB o r a.toNat b.toNat t.toNat lo hi P
theorem insOk_at {o d a b r l h t p s : Int} (g : insOk o d a b r l h t p s = true) : (0 ≤ a ∧ a < 4) ∧ (0 ≤ b ∧ b < 4) ∧ (0 ≤ d ∧ d < 4) ∧ (o = 10 → 0 ≤ t ∧ t < p) ∧ (o = 8 ∨ o = 9 → 0 ≤ t ∧ t < s) ∧ (1 ≤ o ∧ o ≤ 12) := by
  have hf : 1 ≤ o ∧ o ≤ 12 := by
    cases g0 : inB o 1 12
    · simp [insOk, form_out g0] at g
    · simpa [inB] using g0
  simp only [insOk, Bool.and_eq_true, inB, decide_eq_true_eq] at g
  obtain ⟨⟨_, ⟨⟨h1, h2⟩, h3, h4⟩, h5, h6⟩, h7⟩ := g
  refine ⟨by omega, by omega, by omega, fun e => ?_, fun e => ?_, hf⟩
  · subst e; simp [hasB] at h7; exact h7
  · rcases e with e | e
    · subst e; simp [hasB] at h7; exact ⟨h7.1.2, h7.2⟩
    · subst e; simp [hasB] at h7; exact h7
theorem canStep_at {P : Nat → Proc} {m : Nat} {o d a b r l h t : Int} {on : Bool} {n : Nat} {lo hi : Nat → Int} {c u : Int} (g : canStep P m o d a b r l h t on n lo hi c u = true) :
    on = true ∧ n = 4 ∧ (∃ k : Nat, k < 4 ∧ a = (k : Int)) ∧ (∃ k : Nat, k < 4 ∧ b = (k : Int)) ∧ (∃ k : Nat, k < 4 ∧ d = (k : Int)) ∧ (o = 10 → ∃ k : Nat, k < m ∧ t = (k : Int)) ∧ (o = 8 ∨ o = 9 → 0 ≤ t ∧ t < 10) ∧ (1 ≤ o ∧ o ≤ 12) := by
  simp only [canStep, Bool.and_eq_true] at g
  obtain ⟨_, g2, g3, rfl⟩ := g
  obtain ⟨h1, h2, h3, h4, h5, h6⟩ := insOk_at g2
  refine ⟨rfl, ?_, ⟨a.toNat, by omega, by omega⟩, ⟨b.toNat, by omega, by omega⟩, ⟨d.toNat, by omega, by omega⟩, fun e => ⟨t.toNat, by have := h4 e; omega, by have := h4 e; omega⟩, h5, h6⟩
  simp [absOk] at g3; exact g3.1
theorem itvPlacesS (w : World) : Calls Try.prog 71 #[] w fun e w' => e = .returned (.agg #[.int .i64 0, .int .i64 3]) ∧ Below w.heap.size w w' := by
  go_enter Try.func71, Try.ntmps71
  go_wp2
  refine bodyPost_ret (v := .agg #[.int .i64 0, .int .i64 3]) (by simp [results, Try.results71, go_sem]) rfl ⟨rfl, ?_⟩
  repeat (first | exact Below.refl _ _ | refine Below.drew ?_ | refine Below.alloc ?_ (by simp; try omega) _ | refine Below.setCell ?_ (by simp; try omega) _)
set_option maxRecDepth 10000 in
set_option maxHeartbeats 8000000 in
theorem fitS (pa : Option Addr) (pb po m pc : Nat) (P : Nat → Proc) (S : Nat → Spot) (o d a b r l h t : Int) (on : Bool) (sa : Option Addr) (sb off n cap : Nat) (lo hi : Nat → Int) (c u : Int) (w : World) (hm : m ≤ 1048576) (hN : ∀ i, i < m → (P i).n ≤ 1048576) (hn : n ≤ 1048576) (hP : ProcsAt pa pb po m P S w) (hC : BndsAt sa sb off n lo hi w) :
    Calls Try.prog 68 #[.agg #[.slice pa m pc], .agg #[.int .i64 o, .int .i64 d, .int .i64 a, .int .i64 b, .int .i64 r, .int .i64 l, .int .i64 h, .int .i64 t], .agg #[.bool on, .slice sa n cap, .int .i64 c, .int .i64 u]] w fun e w' => e = .returned (.bool (canStep P m o d a b r l h t on n lo hi c u)) ∧ Below w.heap.size w w' := by
  have H : HeldL w [(w.heap.size + 1 + 1, [Value.bool on, .slice sa n cap, .int .i64 c, .int .i64 u]), (w.heap.size + 1, [Value.int .i64 o, .int .i64 d, .int .i64 a, .int .i64 b, .int .i64 r, .int .i64 l, .int .i64 h, .int .i64 t]), (w.heap.size, [Value.slice pa m pc])] (((w.alloc (.cells #[.slice pa m pc] 35)).alloc (.cells #[.int .i64 o, .int .i64 d, .int .i64 a, .int .i64 b, .int .i64 r, .int .i64 l, .int .i64 h, .int .i64 t] 72)).alloc (.cells #[.bool on, .slice sa n cap, .int .i64 c, .int .i64 u] 77)) := by
    have e1 : w.heap.size + 1 = (w.alloc (.cells #[.slice pa m pc] 35)).heap.size := by simp
    have e2 : w.heap.size + 1 + 1 = ((w.alloc (.cells #[.slice pa m pc] 35)).alloc (.cells #[.int .i64 o, .int .i64 d, .int .i64 a, .int .i64 b, .int .i64 r, .int .i64 l, .int .i64 h, .int .i64 t] 72)).heap.size := by simp
    rw [e2, e1]
    exact HeldL.newL (vs := [Value.bool on, .slice sa n cap, .int .i64 c, .int .i64 u]) (HeldL.newL (vs := [Value.int .i64 o, .int .i64 d, .int .i64 a, .int .i64 b, .int .i64 r, .int .i64 l, .int .i64 h, .int .i64 t]) (HeldL.newL (vs := [Value.slice pa m pc]) (HeldL.nil w)))
  obtain ⟨Lb, hLb⟩ : ∃ L, L = [(w.heap.size + 1 + 1, [Value.bool on, .slice sa n cap, .int .i64 c, .int .i64 u]), (w.heap.size + 1, [Value.int .i64 o, .int .i64 d, .int .i64 a, .int .i64 b, .int .i64 r, .int .i64 l, .int .i64 h, .int .i64 t]), (w.heap.size, [Value.slice pa m pc])] := ⟨_, rfl⟩
  have mP : (w.heap.size, [Value.slice pa m pc]) ∈ Lb := by rw [hLb]; simp
  have mI : (w.heap.size + 1, [Value.int .i64 o, .int .i64 d, .int .i64 a, .int .i64 b, .int .i64 r, .int .i64 l, .int .i64 h, .int .i64 t]) ∈ Lb := by rw [hLb]; simp
  have mS : (w.heap.size + 1 + 1, [Value.bool on, .slice sa n cap, .int .i64 c, .int .i64 u]) ∈ Lb := by rw [hLb]; simp
  rw [← hLb] at H
  clear hLb
  have I := hC.next H.below
  have Q := hP.next H.below
  clear hC hP
  go_enter Try.func68, Try.ntmps68
  go_wp2_with fail
  refine (prgOkS _ _ _ _ _ _ _ _ hm hN Q).mono ?_
  rintro e w1 ⟨rfl, hb⟩
  replace H := H.next hb
  replace I := I.next hb
  replace Q := Q.next hb
  clear hb
  cases g1 : prgOk P m
  · go_wp2_with fail
    go_ret
    exact ⟨ret_bool (by simp [canStep, g1]), H.below⟩
  have x0 := H.cell mI (i := 0) rfl
  have x1 := H.cell mI (i := 1) rfl
  have x2 := H.cell mI (i := 2) rfl
  have x3 := H.cell mI (i := 3) rfl
  have x4 := H.cell mI (i := 4) rfl
  have x5 := H.cell mI (i := 5) rfl
  have x6 := H.cell mI (i := 6) rfl
  have x7 := H.cell mI (i := 7) rfl
  dsimp only at x0 x1 x2 x3 x4 x5 x6 x7
  have y0 := H.cell mP (i := 0) rfl
  dsimp only at y0
  go_wp2_with fail
  refine (insOkS _ _ _ _ _ _ _ _ _ _ _).mono ?_
  rintro e w2 ⟨rfl, hb⟩
  replace H := H.next hb
  replace I := I.next hb
  replace Q := Q.next hb
  clear hb
  clear x0 x1 x2 x3 x4 x5 x6 x7 y0
  cases g2 : insOk o d a b r l h t m 10
  · go_wp2_with fail
    go_ret
    exact ⟨ret_bool (by simp [canStep, g1, g2]), H.below⟩
  have c0 := H.cell mS (i := 0) rfl
  have c1 := H.cell mS (i := 1) rfl
  have c2 := H.cell mS (i := 2) rfl
  have c3 := H.cell mS (i := 3) rfl
  dsimp only at c0 c1 c2 c3
  go_wp2_with fail
  refine (absOkS _ _ _ _ _ _ _ _ _ _ _ I).mono ?_
  rintro e w3 ⟨rfl, hb⟩
  replace H := H.next hb
  replace I := I.next hb
  replace Q := Q.next hb
  clear hb
  clear c0 c1 c2 c3
  cases g3 : absOk on n lo hi c u
  · go_wp2_with fail
    go_ret
    exact ⟨ret_bool (by simp [canStep, g1, g2, g3]), H.below⟩
  have c0 := H.cell mS (i := 0) rfl
  dsimp only at c0
  go_wp2_with fail
  go_ret
  exact ⟨ret_bool (by simp [canStep, g1, g2, g3]), H.below⟩
set_option maxRecDepth 10000 in
set_option maxHeartbeats 8000000 in
theorem givenS (pa : Option Addr) (pb po m pc : Nat) (P : Nat → Proc) (S : Nat → Spot) (o d a b r l h : Int) (ti : Nat) (w : World) (ht : ti < m) (hP : ProcsAt pa pb po m P S w) :
    Calls Try.prog 72 #[.agg #[.slice pa m pc], .agg #[.int .i64 o, .int .i64 d, .int .i64 a, .int .i64 b, .int .i64 r, .int .i64 l, .int .i64 h, .int .i64 (ti : Int)]] w fun e w' => e = .returned (.agg #[.int .i64 (P ti).lo, .int .i64 (P ti).hi]) ∧ Below w.heap.size w w' := by
  have ep := hP.at_ (by omega)
  subst ep
  have H : HeldL w [(w.heap.size + 1, [Value.int .i64 o, .int .i64 d, .int .i64 a, .int .i64 b, .int .i64 r, .int .i64 l, .int .i64 h, .int .i64 (ti : Int)]), (w.heap.size, [Value.slice (some ⟨pb, po, none⟩) m pc])] ((w.alloc (.cells #[.slice (some ⟨pb, po, none⟩) m pc] 35)).alloc (.cells #[.int .i64 o, .int .i64 d, .int .i64 a, .int .i64 b, .int .i64 r, .int .i64 l, .int .i64 h, .int .i64 (ti : Int)] 72)) := by
    have e1 : w.heap.size + 1 = (w.alloc (.cells #[.slice (some ⟨pb, po, none⟩) m pc] 35)).heap.size := by simp
    rw [e1]
    exact HeldL.newL (vs := [Value.int .i64 o, .int .i64 d, .int .i64 a, .int .i64 b, .int .i64 r, .int .i64 l, .int .i64 h, .int .i64 (ti : Int)]) (HeldL.newL (vs := [Value.slice (some ⟨pb, po, none⟩) m pc]) (HeldL.nil w))
  obtain ⟨Lb, hLb⟩ : ∃ L, L = [(w.heap.size + 1, [Value.int .i64 o, .int .i64 d, .int .i64 a, .int .i64 b, .int .i64 r, .int .i64 l, .int .i64 h, .int .i64 (ti : Int)]), (w.heap.size, [Value.slice (some ⟨pb, po, none⟩) m pc])] := ⟨_, rfl⟩
  have mP : (w.heap.size, [Value.slice (some ⟨pb, po, none⟩) m pc]) ∈ Lb := by rw [hLb]; simp
  have mI : (w.heap.size + 1, [Value.int .i64 o, .int .i64 d, .int .i64 a, .int .i64 b, .int .i64 r, .int .i64 l, .int .i64 h, .int .i64 (ti : Int)]) ∈ Lb := by rw [hLb]; simp
  rw [← hLb] at H
  clear hLb
  have tt1 : ((ti : Int)).toNat = ti := by omega
  have tt2 : (0 : Int) ≤ (ti : Int) := by omega
  have tt3 : (ti : Int) < (m : Int) := by omega
  have hS0 : HX w w Lb (((w.alloc (.cells #[.slice (some ⟨pb, po, none⟩) m pc] 35)).alloc (.cells #[.int .i64 o, .int .i64 d, .int .i64 a, .int .i64 b, .int .i64 r, .int .i64 l, .int .i64 h, .int .i64 (ti : Int)] 72)).alloc (.cells #[.int .i64 0, .int .i64 0] 75)).drew := ⟨(H.alloc _).drew, ((H.alloc _).drew).below⟩
  have hR0 : ResC 15 (w.heap.size + 1 + 1) (.int .i64 (P ti).lo) (.int .i64 (P ti).hi) (fun _ => false) (((w.alloc (.cells #[.slice (some ⟨pb, po, none⟩) m pc] 35)).alloc (.cells #[.int .i64 o, .int .i64 d, .int .i64 a, .int .i64 b, .int .i64 r, .int .i64 l, .int .i64 h, .int .i64 (ti : Int)] 72)).alloc (.cells #[.int .i64 0, .int .i64 0] 75)).drew := ResC.start (u := .int .i64 0) (v := .int .i64 0) (fun i => by simp [go_sem]) (by simp) (by simp [go_sem]) (by simp [go_sem])
  have hN1 : ∀ e ∈ Lb, e.1 < w.heap.size + 1 + 1 := fun e he => by have := H.size he; simpa using this
  have hN2 : w.heap.size ≤ w.heap.size + 1 + 1 := by omega
  clear H
  go_enter Try.func72, Try.ntmps72
  go_wp2_with fail
  refine region_inv4 [(0, 5), (1, 6), (2, 7), (3, 8), (4, 9), (5, 10), (6, 11), (7, 12), (8, 13), (9, 14), (10, 15), (11, 16), (12, 17), (13, 18), (14, 19)]
    (fun j v => match j with
      | 0 => Is (.pointer (some ⟨w.heap.size, 0, none⟩)) v
      | 1 => Is (.slice (some ⟨pb, po, none⟩) m pc) v
      | 2 => Is (.pointer (some ⟨w.heap.size + 1, 7, none⟩)) v
      | 3 => Is (.int .i64 ti) v
      | 4 => Is (.pointer (some ⟨pb, po + ti * 3, none⟩)) v
      | 5 => Is (.pointer (some ⟨pb, po + ti * 3, none⟩)) v
      | 6 => Is (.int .i64 (P ti).lo) v
      | 7 => Is (.pointer (some ⟨w.heap.size, 0, none⟩)) v
      | 8 => Is (.slice (some ⟨pb, po, none⟩) m pc) v
      | 9 => Is (.pointer (some ⟨w.heap.size + 1, 7, none⟩)) v
      | 10 => Is (.int .i64 ti) v
      | 11 => Is (.pointer (some ⟨pb, po + ti * 3, none⟩)) v
      | 12 => Is (.pointer (some ⟨pb, po + ti * 3 + 1, none⟩)) v
      | 13 => Is (.int .i64 (P ti).hi) v
      | 14 => Is (.agg #[.int .i64 (P ti).lo, .int .i64 (P ti).hi]) v
      | _ => True)
    (fun L vals W => HX w w Lb W ∧ ResC 15 (w.heap.size + 1 + 1) (.int .i64 (P ti).lo) (.int .i64 (P ti).hi) L W)
    (by kernel_rfl) (by kernel_rfl) (by kernel_rfl) (by kernel_rfl) (by kernel_rfl) rfl (fun _ => ⟨hS0, hR0⟩) ?_ ?_
  · intro i L vals W hi' hφ hSS hL hd
    have hi2 : i < 16 := hi'
    obtain ⟨hS, hR⟩ := hSS
    clear hi'
    rcases (show i = 0 ∨ i = 1 ∨ i = 2 ∨ i = 3 ∨ i = 4 ∨ i = 5 ∨ i = 6 ∨ i = 7 ∨ i = 8 ∨ i = 9 ∨ i = 10 ∨ i = 11 ∨ i = 12 ∨ i = 13 ∨ i = 14 ∨ i = 15 by omega) with rfl | rfl | rfl | rfl | rfl | rfl | rfl | rfl | rfl | rfl | rfl | rfl | rfl | rfl | rfl | rfl
    · refine wpAt_of rfl rfl ?_
      simp only [frOf, Act.put]
      go_wp2_with fail
      first | exact ⟨trivial, rfl, hS, hR.keep (by decide)⟩ | exact ⟨rfl, hS, hR.keep (by decide)⟩ | exact ⟨trivial, trivial, rfl, hS, hR.keep (by decide)⟩
    · have k0 : vals 0 = .pointer (some ⟨w.heap.size, 0, none⟩) := hφ 0 (hd 0 (by decide))
      have c0 := hS.cell mP (i := 0) rfl
      dsimp only at c0
      refine wpAt_of rfl rfl ?_
      simp only [frOf, Act.put]
      go_wp2_with fail
      first | exact ⟨trivial, rfl, hS, hR.keep (by decide)⟩ | exact ⟨rfl, hS, hR.keep (by decide)⟩ | exact ⟨trivial, trivial, rfl, hS, hR.keep (by decide)⟩
    · refine wpAt_of rfl rfl ?_
      simp only [frOf, Act.put]
      go_wp2_with fail
      first | exact ⟨trivial, rfl, hS, hR.keep (by decide)⟩ | exact ⟨rfl, hS, hR.keep (by decide)⟩ | exact ⟨trivial, trivial, rfl, hS, hR.keep (by decide)⟩
    · have k2 : vals 2 = .pointer (some ⟨w.heap.size + 1, 7, none⟩) := hφ 2 (hd 2 (by decide))
      have c7 := hS.cell mI (i := 7) rfl
      dsimp only at c7
      refine wpAt_of rfl rfl ?_
      simp only [frOf, Act.put]
      go_wp2_with fail
      first | exact ⟨trivial, rfl, hS, hR.keep (by decide)⟩ | exact ⟨rfl, hS, hR.keep (by decide)⟩ | exact ⟨trivial, trivial, rfl, hS, hR.keep (by decide)⟩
    · have k1 : vals 1 = .slice (some ⟨pb, po, none⟩) m pc := hφ 1 (hd 1 (by decide))
      have k3 : vals 3 = .int .i64 ti := hφ 3 (hd 3 (by decide))
      refine wpAt_of rfl rfl ?_
      simp only [frOf, Act.put]
      go_wp2_with fail
      first | exact ⟨trivial, rfl, hS, hR.keep (by decide)⟩ | exact ⟨rfl, hS, hR.keep (by decide)⟩ | exact ⟨trivial, trivial, rfl, hS, hR.keep (by decide)⟩
    · have k4 : vals 4 = .pointer (some ⟨pb, po + ti * 3, none⟩) := hφ 4 (hd 4 (by decide))
      refine wpAt_of rfl rfl ?_
      simp only [frOf, Act.put]
      go_wp2_with fail
      first | exact ⟨trivial, rfl, hS, hR.keep (by decide)⟩ | exact ⟨rfl, hS, hR.keep (by decide)⟩ | exact ⟨trivial, trivial, rfl, hS, hR.keep (by decide)⟩
    · have k5 : vals 5 = .pointer (some ⟨pb, po + ti * 3, none⟩) := hφ 5 (hd 5 (by decide))
      have d0 := (hP.next hS.beh).lo ti ht
      refine wpAt_of rfl rfl ?_
      simp only [frOf, Act.put]
      go_wp2_with fail
      first | exact ⟨trivial, rfl, hS, hR.keep (by decide)⟩ | exact ⟨rfl, hS, hR.keep (by decide)⟩ | exact ⟨trivial, trivial, rfl, hS, hR.keep (by decide)⟩
    · refine wpAt_of rfl rfl ?_
      simp only [frOf, Act.put]
      go_wp2_with fail
      first | exact ⟨trivial, rfl, hS, hR.keep (by decide)⟩ | exact ⟨rfl, hS, hR.keep (by decide)⟩ | exact ⟨trivial, trivial, rfl, hS, hR.keep (by decide)⟩
    · have k7 : vals 7 = .pointer (some ⟨w.heap.size, 0, none⟩) := hφ 7 (hd 7 (by decide))
      have c0 := hS.cell mP (i := 0) rfl
      dsimp only at c0
      refine wpAt_of rfl rfl ?_
      simp only [frOf, Act.put]
      go_wp2_with fail
      first | exact ⟨trivial, rfl, hS, hR.keep (by decide)⟩ | exact ⟨rfl, hS, hR.keep (by decide)⟩ | exact ⟨trivial, trivial, rfl, hS, hR.keep (by decide)⟩
    · refine wpAt_of rfl rfl ?_
      simp only [frOf, Act.put]
      go_wp2_with fail
      first | exact ⟨trivial, rfl, hS, hR.keep (by decide)⟩ | exact ⟨rfl, hS, hR.keep (by decide)⟩ | exact ⟨trivial, trivial, rfl, hS, hR.keep (by decide)⟩
    · have k9 : vals 9 = .pointer (some ⟨w.heap.size + 1, 7, none⟩) := hφ 9 (hd 9 (by decide))
      have c7 := hS.cell mI (i := 7) rfl
      dsimp only at c7
      refine wpAt_of rfl rfl ?_
      simp only [frOf, Act.put]
      go_wp2_with fail
      first | exact ⟨trivial, rfl, hS, hR.keep (by decide)⟩ | exact ⟨rfl, hS, hR.keep (by decide)⟩ | exact ⟨trivial, trivial, rfl, hS, hR.keep (by decide)⟩
    · have k8 : vals 8 = .slice (some ⟨pb, po, none⟩) m pc := hφ 8 (hd 8 (by decide))
      have k10 : vals 10 = .int .i64 ti := hφ 10 (hd 10 (by decide))
      refine wpAt_of rfl rfl ?_
      simp only [frOf, Act.put]
      go_wp2_with fail
      first | exact ⟨trivial, rfl, hS, hR.keep (by decide)⟩ | exact ⟨rfl, hS, hR.keep (by decide)⟩ | exact ⟨trivial, trivial, rfl, hS, hR.keep (by decide)⟩
    · have k11 : vals 11 = .pointer (some ⟨pb, po + ti * 3, none⟩) := hφ 11 (hd 11 (by decide))
      refine wpAt_of rfl rfl ?_
      simp only [frOf, Act.put]
      go_wp2_with fail
      first | exact ⟨trivial, rfl, hS, hR.keep (by decide)⟩ | exact ⟨rfl, hS, hR.keep (by decide)⟩ | exact ⟨trivial, trivial, rfl, hS, hR.keep (by decide)⟩
    · have k12 : vals 12 = .pointer (some ⟨pb, po + ti * 3 + 1, none⟩) := hφ 12 (hd 12 (by decide))
      have d1 := (hP.next hS.beh).hi ti ht
      refine wpAt_of rfl rfl ?_
      simp only [frOf, Act.put]
      go_wp2_with fail
      first | exact ⟨trivial, rfl, hS, hR.keep (by decide)⟩ | exact ⟨rfl, hS, hR.keep (by decide)⟩ | exact ⟨trivial, trivial, rfl, hS, hR.keep (by decide)⟩
    · have k6 : vals 6 = .int .i64 (P ti).lo := hφ 6 (hd 6 (by decide))
      have k13 : vals 13 = .int .i64 (P ti).hi := hφ 13 (hd 13 (by decide))
      refine wpAt_of rfl rfl ?_
      simp only [frOf, Act.put]
      go_wp2_with fail
      first | exact ⟨trivial, rfl, hS, hR.keep (by decide)⟩ | exact ⟨rfl, hS, hR.keep (by decide)⟩ | exact ⟨trivial, trivial, rfl, hS, hR.keep (by decide)⟩
    · have k14 : vals 14 = .agg #[.int .i64 (P ti).lo, .int .i64 (P ti).hi] := hφ 14 (hd 14 (by decide))
      obtain ⟨u0, cc0⟩ := Option.isSome_iff_exists.1 hR.2.2.1
      obtain ⟨u1, cc1⟩ := Option.isSome_iff_exists.1 hR.2.2.2.1
      have hbf := hR.1
      refine wpAt_none rfl rfl ?_
      simp only [frOf, Act.put]
      go_wp2_with fail
      first | exact ⟨trivial, HX.setAll hN1 hN2 hN2 (Nat.le_refl _) [Value.int .i64 (P ti).lo, .int .i64 (P ti).hi] 0 hS, hR.done⟩ | exact ⟨HX.setAll hN1 hN2 hN2 (Nat.le_refl _) [Value.int .i64 (P ti).lo, .int .i64 (P ti).hi] 0 hS, hR.done⟩ | exact ⟨trivial, trivial, HX.setAll hN1 hN2 hN2 (Nat.le_refl _) [Value.int .i64 (P ti).lo, .int .i64 (P ti).hi] 0 hS, hR.done⟩
  · intro L vals W hall hφ hSS
    obtain ⟨hS, hR⟩ := hSS
    have k0 : vals 0 = .pointer (some ⟨w.heap.size, 0, none⟩) := hφ 0 (by decide)
    have k1 : vals 1 = .slice (some ⟨pb, po, none⟩) m pc := hφ 1 (by decide)
    have k2 : vals 2 = .pointer (some ⟨w.heap.size + 1, 7, none⟩) := hφ 2 (by decide)
    have k3 : vals 3 = .int .i64 ti := hφ 3 (by decide)
    have k4 : vals 4 = .pointer (some ⟨pb, po + ti * 3, none⟩) := hφ 4 (by decide)
    have k5 : vals 5 = .pointer (some ⟨pb, po + ti * 3, none⟩) := hφ 5 (by decide)
    have k6 : vals 6 = .int .i64 (P ti).lo := hφ 6 (by decide)
    have k7 : vals 7 = .pointer (some ⟨w.heap.size, 0, none⟩) := hφ 7 (by decide)
    have k8 : vals 8 = .slice (some ⟨pb, po, none⟩) m pc := hφ 8 (by decide)
    have k9 : vals 9 = .pointer (some ⟨w.heap.size + 1, 7, none⟩) := hφ 9 (by decide)
    have k10 : vals 10 = .int .i64 ti := hφ 10 (by decide)
    have k11 : vals 11 = .pointer (some ⟨pb, po + ti * 3, none⟩) := hφ 11 (by decide)
    have k12 : vals 12 = .pointer (some ⟨pb, po + ti * 3 + 1, none⟩) := hφ 12 (by decide)
    have k13 : vals 13 = .int .i64 (P ti).hi := hφ 13 (by decide)
    have k14 : vals 14 = .agg #[.int .i64 (P ti).lo, .int .i64 (P ti).hi] := hφ 14 (by decide)
    simp only [frOf, Act.put, List.setIfInBounds_toArray, List.set_cons_succ, List.set_cons_zero, k0, k1, k2, k3, k4, k5, k6, k7, k8, k9, k10, k11, k12, k13, k14]
    clear k0 k1 k2 k3 k4 k5 k6 k7 k8 k9 k10 k11 k12 k13 k14 hφ
    obtain ⟨e0, e1⟩ := hR.2.2.2.2 (hall 15 (by decide))
    have bE := hS.1.below
    clear hall
    go_wp2_with fail
    refine bodyPost_ret (v := .agg #[.int .i64 (P ti).lo, .int .i64 (P ti).hi]) (by simp [results, Try.results72, go_sem, e0, e1]) rfl ⟨rfl, bE⟩
set_option maxRecDepth 10000 in
set_option maxHeartbeats 8000000 in
theorem absFailsS_4 (pa : Option Addr) (pb po m pc : Nat) (P : Nat → Proc) (S : Nat → Spot) (d : Int) (ai bi : Nat) (r l h t : Int) (sb off cap : Nat) (lo hi : Nat → Int) (c u : Int) (w : World) (hm : m ≤ 1048576) (hN : ∀ i, i < m → (P i).n ≤ 1048576) (hP : ProcsAt pa pb po m P S w) (hC : BndsAt (some ⟨sb, off, none⟩) sb off 4 lo hi w) (hai : ai < 4) (hbi : bi < 4) (g : Hid (canStep P m 4 d ai bi r l h t true 4 lo hi c u = true)) :
    Calls Try.prog 34 #[.agg #[.slice pa m pc], .agg #[.int .i64 4, .int .i64 d, .int .i64 (ai : Int), .int .i64 (bi : Int), .int .i64 r, .int .i64 l, .int .i64 h, .int .i64 t], .agg #[.bool true, .slice (some ⟨sb, off, none⟩) 4 cap, .int .i64 c, .int .i64 u]] w fun e w' => e = .returned (.bool (failB 4 r ai bi t.toNat lo hi P)) ∧ Below w.heap.size w w' := by
  have H : HeldL w [(w.heap.size + 1 + 1, [Value.bool true, .slice (some ⟨sb, off, none⟩) 4 cap, .int .i64 c, .int .i64 u]), (w.heap.size + 1, [Value.int .i64 4, .int .i64 d, .int .i64 (ai : Int), .int .i64 (bi : Int), .int .i64 r, .int .i64 l, .int .i64 h, .int .i64 t]), (w.heap.size, [Value.slice pa m pc])] (((w.alloc (.cells #[.slice pa m pc] 35)).alloc (.cells #[.int .i64 4, .int .i64 d, .int .i64 (ai : Int), .int .i64 (bi : Int), .int .i64 r, .int .i64 l, .int .i64 h, .int .i64 t] 72)).alloc (.cells #[.bool true, .slice (some ⟨sb, off, none⟩) 4 cap, .int .i64 c, .int .i64 u] 77)) := by
    have e1 : w.heap.size + 1 = (w.alloc (.cells #[.slice pa m pc] 35)).heap.size := by simp
    have e2 : w.heap.size + 1 + 1 = ((w.alloc (.cells #[.slice pa m pc] 35)).alloc (.cells #[.int .i64 4, .int .i64 d, .int .i64 (ai : Int), .int .i64 (bi : Int), .int .i64 r, .int .i64 l, .int .i64 h, .int .i64 t] 72)).heap.size := by simp
    rw [e2, e1]
    exact HeldL.newL (vs := [Value.bool true, .slice (some ⟨sb, off, none⟩) 4 cap, .int .i64 c, .int .i64 u]) (HeldL.newL (vs := [Value.int .i64 4, .int .i64 d, .int .i64 (ai : Int), .int .i64 (bi : Int), .int .i64 r, .int .i64 l, .int .i64 h, .int .i64 t]) (HeldL.newL (vs := [Value.slice pa m pc]) (HeldL.nil w)))
  obtain ⟨Lb, hLb⟩ : ∃ L, L = [(w.heap.size + 1 + 1, [Value.bool true, .slice (some ⟨sb, off, none⟩) 4 cap, .int .i64 c, .int .i64 u]), (w.heap.size + 1, [Value.int .i64 4, .int .i64 d, .int .i64 (ai : Int), .int .i64 (bi : Int), .int .i64 r, .int .i64 l, .int .i64 h, .int .i64 t]), (w.heap.size, [Value.slice pa m pc])] := ⟨_, rfl⟩
  have mP : (w.heap.size, [Value.slice pa m pc]) ∈ Lb := by rw [hLb]; simp
  have mI : (w.heap.size + 1, [Value.int .i64 4, .int .i64 d, .int .i64 (ai : Int), .int .i64 (bi : Int), .int .i64 r, .int .i64 l, .int .i64 h, .int .i64 t]) ∈ Lb := by rw [hLb]; simp
  have mS : (w.heap.size + 1 + 1, [Value.bool true, .slice (some ⟨sb, off, none⟩) 4 cap, .int .i64 c, .int .i64 u]) ∈ Lb := by rw [hLb]; simp
  rw [← hLb] at H
  clear hLb
  have I := hC.next H.below
  have Q := hP.next H.below
  clear hC hP
  go_enter Try.func34, Try.ntmps34
  go_wp2_with fail
  refine (fitS _ _ _ _ _ _ _ _ _ _ _ _ _ _ _ _ _ _ _ _ _ _ _ _ _ _ hm hN (by omega) Q I).mono ?_
  rintro e w1 ⟨rfl, hb⟩
  rw [g.out]
  replace H := H.next hb
  replace I := I.next hb
  replace Q := Q.next hb
  clear hb
  clear hm hN
  have c0 := H.cell mI (i := 0) rfl
  dsimp only at c0
  have t1ai : ((ai : Int)).toNat = ai := by omega
  have t2ai : (0 : Int) ≤ (ai : Int) := by omega
  have t3ai : (ai : Int) < 4 := by omega
  have t1bi : ((bi : Int)).toNat = bi := by omega
  have t2bi : (0 : Int) ≤ (bi : Int) := by omega
  have t3bi : (bi : Int) < 4 := by omega
  have x3 := H.cell mI (i := 3) rfl
  dsimp only at x3
  have y1 := H.cell mS (i := 1) rfl
  dsimp only at y1
  have d0 := I.lo bi hbi
  have d1 := I.hi bi hbi
  go_wp2_with fail
  refine (itvHasS _ _ _ _).mono ?_
  rintro e w2 ⟨rfl, hb⟩
  replace H := H.next hb
  go_wp2_with fail
  go_ret
  exact ⟨ret_bool (by simp [failB]), H.below⟩
set_option maxRecDepth 10000 in
set_option maxHeartbeats 8000000 in
theorem absFailsS_6 (pa : Option Addr) (pb po m pc : Nat) (P : Nat → Proc) (S : Nat → Spot) (d : Int) (ai bi : Nat) (r l h t : Int) (sb off cap : Nat) (lo hi : Nat → Int) (c u : Int) (w : World) (hm : m ≤ 1048576) (hN : ∀ i, i < m → (P i).n ≤ 1048576) (hP : ProcsAt pa pb po m P S w) (hC : BndsAt (some ⟨sb, off, none⟩) sb off 4 lo hi w) (hai : ai < 4) (hbi : bi < 4) (g : Hid (canStep P m 6 d ai bi r l h t true 4 lo hi c u = true)) :
    Calls Try.prog 34 #[.agg #[.slice pa m pc], .agg #[.int .i64 6, .int .i64 d, .int .i64 (ai : Int), .int .i64 (bi : Int), .int .i64 r, .int .i64 l, .int .i64 h, .int .i64 t], .agg #[.bool true, .slice (some ⟨sb, off, none⟩) 4 cap, .int .i64 c, .int .i64 u]] w fun e w' => e = .returned (.bool (failB 6 r ai bi t.toNat lo hi P)) ∧ Below w.heap.size w w' := by
  have H : HeldL w [(w.heap.size + 1 + 1, [Value.bool true, .slice (some ⟨sb, off, none⟩) 4 cap, .int .i64 c, .int .i64 u]), (w.heap.size + 1, [Value.int .i64 6, .int .i64 d, .int .i64 (ai : Int), .int .i64 (bi : Int), .int .i64 r, .int .i64 l, .int .i64 h, .int .i64 t]), (w.heap.size, [Value.slice pa m pc])] (((w.alloc (.cells #[.slice pa m pc] 35)).alloc (.cells #[.int .i64 6, .int .i64 d, .int .i64 (ai : Int), .int .i64 (bi : Int), .int .i64 r, .int .i64 l, .int .i64 h, .int .i64 t] 72)).alloc (.cells #[.bool true, .slice (some ⟨sb, off, none⟩) 4 cap, .int .i64 c, .int .i64 u] 77)) := by
    have e1 : w.heap.size + 1 = (w.alloc (.cells #[.slice pa m pc] 35)).heap.size := by simp
    have e2 : w.heap.size + 1 + 1 = ((w.alloc (.cells #[.slice pa m pc] 35)).alloc (.cells #[.int .i64 6, .int .i64 d, .int .i64 (ai : Int), .int .i64 (bi : Int), .int .i64 r, .int .i64 l, .int .i64 h, .int .i64 t] 72)).heap.size := by simp
    rw [e2, e1]
    exact HeldL.newL (vs := [Value.bool true, .slice (some ⟨sb, off, none⟩) 4 cap, .int .i64 c, .int .i64 u]) (HeldL.newL (vs := [Value.int .i64 6, .int .i64 d, .int .i64 (ai : Int), .int .i64 (bi : Int), .int .i64 r, .int .i64 l, .int .i64 h, .int .i64 t]) (HeldL.newL (vs := [Value.slice pa m pc]) (HeldL.nil w)))
  obtain ⟨Lb, hLb⟩ : ∃ L, L = [(w.heap.size + 1 + 1, [Value.bool true, .slice (some ⟨sb, off, none⟩) 4 cap, .int .i64 c, .int .i64 u]), (w.heap.size + 1, [Value.int .i64 6, .int .i64 d, .int .i64 (ai : Int), .int .i64 (bi : Int), .int .i64 r, .int .i64 l, .int .i64 h, .int .i64 t]), (w.heap.size, [Value.slice pa m pc])] := ⟨_, rfl⟩
  have mP : (w.heap.size, [Value.slice pa m pc]) ∈ Lb := by rw [hLb]; simp
  have mI : (w.heap.size + 1, [Value.int .i64 6, .int .i64 d, .int .i64 (ai : Int), .int .i64 (bi : Int), .int .i64 r, .int .i64 l, .int .i64 h, .int .i64 t]) ∈ Lb := by rw [hLb]; simp
  have mS : (w.heap.size + 1 + 1, [Value.bool true, .slice (some ⟨sb, off, none⟩) 4 cap, .int .i64 c, .int .i64 u]) ∈ Lb := by rw [hLb]; simp
  rw [← hLb] at H
  clear hLb
  have I := hC.next H.below
  have Q := hP.next H.below
  clear hC hP
  go_enter Try.func34, Try.ntmps34
  go_wp2_with fail
  refine (fitS _ _ _ _ _ _ _ _ _ _ _ _ _ _ _ _ _ _ _ _ _ _ _ _ _ _ hm hN (by omega) Q I).mono ?_
  rintro e w1 ⟨rfl, hb⟩
  rw [g.out]
  replace H := H.next hb
  replace I := I.next hb
  replace Q := Q.next hb
  clear hb
  clear hm hN
  have c0 := H.cell mI (i := 0) rfl
  dsimp only at c0
  have t1ai : ((ai : Int)).toNat = ai := by omega
  have t2ai : (0 : Int) ≤ (ai : Int) := by omega
  have t3ai : (ai : Int) < 4 := by omega
  have t1bi : ((bi : Int)).toNat = bi := by omega
  have t2bi : (0 : Int) ≤ (bi : Int) := by omega
  have t3bi : (bi : Int) < 4 := by omega
  obtain ⟨q, hq'⟩ : ∃ q, itvIn (lo ai) (hi ai) 0 3 = q := ⟨_, rfl⟩
  have hq : Hid (itvIn (lo ai) (hi ai) 0 3 = q) := hq'
  clear hq'
  have hS0 : HX w w1 Lb w1.drew := ⟨H.drew, (Below.refl _ w1).drew⟩
  clear H
  go_wp2_with fail
  refine region_inv3 [(0, 29), (1, 30), (2, 31), (3, 32), (4, 33), (5, 34), (6, 35), (7, 36), (8, 37), (9, 6)]
    (fun j v _ => match j with
      | 0 => Is (.pointer (some ⟨w.heap.size + 1 + 1, 1, none⟩)) v
      | 1 => Is (.slice (some ⟨sb, off, none⟩) 4 cap) v
      | 2 => Is (.pointer (some ⟨w.heap.size + 1, 2, none⟩)) v
      | 3 => Is (.int .i64 ai) v
      | 4 => Is (.pointer (some ⟨sb, off + ai * 2, none⟩)) v
      | 5 => Is (.agg #[.int .i64 (lo ai), .int .i64 (hi ai)]) v
      | 6 => Is (.agg #[.int .i64 0, .int .i64 3]) v
      | 7 => Is (.bool q) v
      | 8 => Is (.bool !q) v
      | 9 => Is (.bool !q) v
      | _ => True)
    (fun _ W => HX w w1 Lb W) TT
    (by kernel_rfl) (by kernel_rfl) (by kernel_rfl) (by kernel_rfl) (by kernel_rfl) rfl hS0 (fun i j v W W' _ h _ => h) ?_ ?_
  · intro i L vals W hi' hφ hS hL hd
    have hi2 : i < 10 := hi'
    clear hi'
    rcases (show i = 0 ∨ i = 1 ∨ i = 2 ∨ i = 3 ∨ i = 4 ∨ i = 5 ∨ i = 6 ∨ i = 7 ∨ i = 8 ∨ i = 9 by omega) with rfl | rfl | rfl | rfl | rfl | rfl | rfl | rfl | rfl | rfl
    · refine wpAt_of rfl rfl ?_
      simp only [frOf, Act.put]
      go_wp2_with fail
      first | exact ⟨trivial, rfl, trivial, hS⟩ | exact ⟨rfl, trivial, hS⟩ | exact ⟨trivial, rfl, trivial⟩ | exact ⟨rfl, trivial⟩ | exact rfl
    · have k0 : vals 0 = .pointer (some ⟨w.heap.size + 1 + 1, 1, none⟩) := hφ 0 (hd 0 (by decide))
      have c1 := hS.cell mS (i := 1) rfl
      dsimp only at c1
      refine wpAt_of rfl rfl ?_
      simp only [frOf, Act.put]
      go_wp2_with fail
      first | exact ⟨trivial, rfl, trivial, hS⟩ | exact ⟨rfl, trivial, hS⟩ | exact ⟨trivial, rfl, trivial⟩ | exact ⟨rfl, trivial⟩ | exact rfl
    · refine wpAt_of rfl rfl ?_
      simp only [frOf, Act.put]
      go_wp2_with fail
      first | exact ⟨trivial, rfl, trivial, hS⟩ | exact ⟨rfl, trivial, hS⟩ | exact ⟨trivial, rfl, trivial⟩ | exact ⟨rfl, trivial⟩ | exact rfl
    · have k2 : vals 2 = .pointer (some ⟨w.heap.size + 1, 2, none⟩) := hφ 2 (hd 2 (by decide))
      have c2 := hS.cell mI (i := 2) rfl
      dsimp only at c2
      refine wpAt_of rfl rfl ?_
      simp only [frOf, Act.put]
      go_wp2_with fail
      first | exact ⟨trivial, rfl, trivial, hS⟩ | exact ⟨rfl, trivial, hS⟩ | exact ⟨trivial, rfl, trivial⟩ | exact ⟨rfl, trivial⟩ | exact rfl
    · have k1 : vals 1 = .slice (some ⟨sb, off, none⟩) 4 cap := hφ 1 (hd 1 (by decide))
      have k3 : vals 3 = .int .i64 ai := hφ 3 (hd 3 (by decide))
      refine wpAt_of rfl rfl ?_
      simp only [frOf, Act.put]
      go_wp2_with fail
      first | exact ⟨trivial, rfl, trivial, hS⟩ | exact ⟨rfl, trivial, hS⟩ | exact ⟨trivial, rfl, trivial⟩ | exact ⟨rfl, trivial⟩ | exact rfl
    · have k4 : vals 4 = .pointer (some ⟨sb, off + ai * 2, none⟩) := hφ 4 (hd 4 (by decide))
      have dd := I.next hS.beh
      have d0 := dd.lo ai hai
      have d1 := dd.hi ai hai
      clear dd
      refine wpAt_of rfl rfl ?_
      simp only [frOf, Act.put]
      go_wp2_with fail
      first | exact ⟨trivial, rfl, trivial, hS⟩ | exact ⟨rfl, trivial, hS⟩ | exact ⟨trivial, rfl, trivial⟩ | exact ⟨rfl, trivial⟩ | exact rfl
    · refine wpAt_of rfl rfl ?_
      simp only [frOf, Act.put]
      go_wp2_with fail
      refine (itvPlacesS _).mono ?_
      rintro e W' ⟨rfl, hb⟩
      go_wp2_with fail
      first | exact ⟨trivial, rfl, trivial, HX.next hb hS⟩ | exact ⟨rfl, trivial, HX.next hb hS⟩ | exact ⟨trivial, rfl, trivial⟩ | exact ⟨rfl, trivial⟩ | exact rfl
    · have k5 : vals 5 = .agg #[.int .i64 (lo ai), .int .i64 (hi ai)] := hφ 5 (hd 5 (by decide))
      have k6 : vals 6 = .agg #[.int .i64 0, .int .i64 3] := hφ 6 (hd 6 (by decide))
      refine wpAt_of rfl rfl ?_
      simp only [frOf, Act.put]
      go_wp2_with fail
      refine (itvInS _ _ _ _ _).mono ?_
      rintro e W' ⟨rfl, hb⟩
      rw [hq.out]
      go_wp2_with fail
      first | exact ⟨trivial, rfl, trivial, HX.next hb hS⟩ | exact ⟨rfl, trivial, HX.next hb hS⟩ | exact ⟨trivial, rfl, trivial⟩ | exact ⟨rfl, trivial⟩ | exact rfl
    · have k7 : vals 7 = .bool q := hφ 7 (hd 7 (by decide))
      refine wpAt_of rfl rfl ?_
      simp only [frOf, Act.put]
      go_wp2_with fail
      first | exact ⟨trivial, rfl, trivial, hS⟩ | exact ⟨rfl, trivial, hS⟩ | exact ⟨trivial, rfl, trivial⟩ | exact ⟨rfl, trivial⟩ | exact rfl
    · have k8 : vals 8 = .bool !q := hφ 8 (hd 8 (by decide))
      refine wpAt_of rfl rfl ?_
      simp only [frOf, Act.put]
      go_wp2_with fail
      first | exact ⟨trivial, rfl, trivial, hS⟩ | exact ⟨rfl, trivial, hS⟩ | exact ⟨trivial, rfl, trivial⟩ | exact ⟨rfl, trivial⟩ | exact rfl
  · intro L vals W hall hφ hS
    have k0 : vals 0 = .pointer (some ⟨w.heap.size + 1 + 1, 1, none⟩) := hφ 0 (by decide)
    have k1 : vals 1 = .slice (some ⟨sb, off, none⟩) 4 cap := hφ 1 (by decide)
    have k2 : vals 2 = .pointer (some ⟨w.heap.size + 1, 2, none⟩) := hφ 2 (by decide)
    have k3 : vals 3 = .int .i64 ai := hφ 3 (by decide)
    have k4 : vals 4 = .pointer (some ⟨sb, off + ai * 2, none⟩) := hφ 4 (by decide)
    have k5 : vals 5 = .agg #[.int .i64 (lo ai), .int .i64 (hi ai)] := hφ 5 (by decide)
    have k6 : vals 6 = .agg #[.int .i64 0, .int .i64 3] := hφ 6 (by decide)
    have k7 : vals 7 = .bool q := hφ 7 (by decide)
    have k8 : vals 8 = .bool !q := hφ 8 (by decide)
    have k9 : vals 9 = .bool !q := hφ 9 (by decide)
    simp only [frOf, Act.put, List.setIfInBounds_toArray, List.set_cons_succ, List.set_cons_zero, k0, k1, k2, k3, k4, k5, k6, k7, k8, k9]
    clear k0 k1 k2 k3 k4 k5 k6 k7 k8 k9 hall hφ hS0
    have H := hS.1
    go_wp2_with fail
    go_ret
    exact ⟨ret_bool (by rw [← hq.out]; simp [failB]), H.below⟩
set_option maxRecDepth 10000 in
set_option maxHeartbeats 8000000 in
theorem absFailsS_7 (pa : Option Addr) (pb po m pc : Nat) (P : Nat → Proc) (S : Nat → Spot) (d : Int) (ai bi : Nat) (r l h t : Int) (sb off cap : Nat) (lo hi : Nat → Int) (c u : Int) (w : World) (hm : m ≤ 1048576) (hN : ∀ i, i < m → (P i).n ≤ 1048576) (hP : ProcsAt pa pb po m P S w) (hC : BndsAt (some ⟨sb, off, none⟩) sb off 4 lo hi w) (hai : ai < 4) (hbi : bi < 4) (g : Hid (canStep P m 7 d ai bi r l h t true 4 lo hi c u = true)) :
    Calls Try.prog 34 #[.agg #[.slice pa m pc], .agg #[.int .i64 7, .int .i64 d, .int .i64 (ai : Int), .int .i64 (bi : Int), .int .i64 r, .int .i64 l, .int .i64 h, .int .i64 t], .agg #[.bool true, .slice (some ⟨sb, off, none⟩) 4 cap, .int .i64 c, .int .i64 u]] w fun e w' => e = .returned (.bool (failB 7 r ai bi t.toNat lo hi P)) ∧ Below w.heap.size w w' := by
  have H : HeldL w [(w.heap.size + 1 + 1, [Value.bool true, .slice (some ⟨sb, off, none⟩) 4 cap, .int .i64 c, .int .i64 u]), (w.heap.size + 1, [Value.int .i64 7, .int .i64 d, .int .i64 (ai : Int), .int .i64 (bi : Int), .int .i64 r, .int .i64 l, .int .i64 h, .int .i64 t]), (w.heap.size, [Value.slice pa m pc])] (((w.alloc (.cells #[.slice pa m pc] 35)).alloc (.cells #[.int .i64 7, .int .i64 d, .int .i64 (ai : Int), .int .i64 (bi : Int), .int .i64 r, .int .i64 l, .int .i64 h, .int .i64 t] 72)).alloc (.cells #[.bool true, .slice (some ⟨sb, off, none⟩) 4 cap, .int .i64 c, .int .i64 u] 77)) := by
    have e1 : w.heap.size + 1 = (w.alloc (.cells #[.slice pa m pc] 35)).heap.size := by simp
    have e2 : w.heap.size + 1 + 1 = ((w.alloc (.cells #[.slice pa m pc] 35)).alloc (.cells #[.int .i64 7, .int .i64 d, .int .i64 (ai : Int), .int .i64 (bi : Int), .int .i64 r, .int .i64 l, .int .i64 h, .int .i64 t] 72)).heap.size := by simp
    rw [e2, e1]
    exact HeldL.newL (vs := [Value.bool true, .slice (some ⟨sb, off, none⟩) 4 cap, .int .i64 c, .int .i64 u]) (HeldL.newL (vs := [Value.int .i64 7, .int .i64 d, .int .i64 (ai : Int), .int .i64 (bi : Int), .int .i64 r, .int .i64 l, .int .i64 h, .int .i64 t]) (HeldL.newL (vs := [Value.slice pa m pc]) (HeldL.nil w)))
  obtain ⟨Lb, hLb⟩ : ∃ L, L = [(w.heap.size + 1 + 1, [Value.bool true, .slice (some ⟨sb, off, none⟩) 4 cap, .int .i64 c, .int .i64 u]), (w.heap.size + 1, [Value.int .i64 7, .int .i64 d, .int .i64 (ai : Int), .int .i64 (bi : Int), .int .i64 r, .int .i64 l, .int .i64 h, .int .i64 t]), (w.heap.size, [Value.slice pa m pc])] := ⟨_, rfl⟩
  have mP : (w.heap.size, [Value.slice pa m pc]) ∈ Lb := by rw [hLb]; simp
  have mI : (w.heap.size + 1, [Value.int .i64 7, .int .i64 d, .int .i64 (ai : Int), .int .i64 (bi : Int), .int .i64 r, .int .i64 l, .int .i64 h, .int .i64 t]) ∈ Lb := by rw [hLb]; simp
  have mS : (w.heap.size + 1 + 1, [Value.bool true, .slice (some ⟨sb, off, none⟩) 4 cap, .int .i64 c, .int .i64 u]) ∈ Lb := by rw [hLb]; simp
  rw [← hLb] at H
  clear hLb
  have I := hC.next H.below
  have Q := hP.next H.below
  clear hC hP
  go_enter Try.func34, Try.ntmps34
  go_wp2_with fail
  refine (fitS _ _ _ _ _ _ _ _ _ _ _ _ _ _ _ _ _ _ _ _ _ _ _ _ _ _ hm hN (by omega) Q I).mono ?_
  rintro e w1 ⟨rfl, hb⟩
  rw [g.out]
  replace H := H.next hb
  replace I := I.next hb
  replace Q := Q.next hb
  clear hb
  clear hm hN
  have c0 := H.cell mI (i := 0) rfl
  dsimp only at c0
  have t1ai : ((ai : Int)).toNat = ai := by omega
  have t2ai : (0 : Int) ≤ (ai : Int) := by omega
  have t3ai : (ai : Int) < 4 := by omega
  have t1bi : ((bi : Int)).toNat = bi := by omega
  have t2bi : (0 : Int) ≤ (bi : Int) := by omega
  have t3bi : (bi : Int) < 4 := by omega
  obtain ⟨q, hq'⟩ : ∃ q, itvIn (lo ai) (hi ai) 0 3 = q := ⟨_, rfl⟩
  have hq : Hid (itvIn (lo ai) (hi ai) 0 3 = q) := hq'
  clear hq'
  have hS0 : HX w w1 Lb w1.drew := ⟨H.drew, (Below.refl _ w1).drew⟩
  clear H
  go_wp2_with fail
  refine region_inv3 [(0, 29), (1, 30), (2, 31), (3, 32), (4, 33), (5, 34), (6, 35), (7, 36), (8, 37), (9, 6)]
    (fun j v _ => match j with
      | 0 => Is (.pointer (some ⟨w.heap.size + 1 + 1, 1, none⟩)) v
      | 1 => Is (.slice (some ⟨sb, off, none⟩) 4 cap) v
      | 2 => Is (.pointer (some ⟨w.heap.size + 1, 2, none⟩)) v
      | 3 => Is (.int .i64 ai) v
      | 4 => Is (.pointer (some ⟨sb, off + ai * 2, none⟩)) v
      | 5 => Is (.agg #[.int .i64 (lo ai), .int .i64 (hi ai)]) v
      | 6 => Is (.agg #[.int .i64 0, .int .i64 3]) v
      | 7 => Is (.bool q) v
      | 8 => Is (.bool !q) v
      | 9 => Is (.bool !q) v
      | _ => True)
    (fun _ W => HX w w1 Lb W) TT
    (by kernel_rfl) (by kernel_rfl) (by kernel_rfl) (by kernel_rfl) (by kernel_rfl) rfl hS0 (fun i j v W W' _ h _ => h) ?_ ?_
  · intro i L vals W hi' hφ hS hL hd
    have hi2 : i < 10 := hi'
    clear hi'
    rcases (show i = 0 ∨ i = 1 ∨ i = 2 ∨ i = 3 ∨ i = 4 ∨ i = 5 ∨ i = 6 ∨ i = 7 ∨ i = 8 ∨ i = 9 by omega) with rfl | rfl | rfl | rfl | rfl | rfl | rfl | rfl | rfl | rfl
    · refine wpAt_of rfl rfl ?_
      simp only [frOf, Act.put]
      go_wp2_with fail
      first | exact ⟨trivial, rfl, trivial, hS⟩ | exact ⟨rfl, trivial, hS⟩ | exact ⟨trivial, rfl, trivial⟩ | exact ⟨rfl, trivial⟩ | exact rfl
    · have k0 : vals 0 = .pointer (some ⟨w.heap.size + 1 + 1, 1, none⟩) := hφ 0 (hd 0 (by decide))
      have c1 := hS.cell mS (i := 1) rfl
      dsimp only at c1
      refine wpAt_of rfl rfl ?_
      simp only [frOf, Act.put]
      go_wp2_with fail
      first | exact ⟨trivial, rfl, trivial, hS⟩ | exact ⟨rfl, trivial, hS⟩ | exact ⟨trivial, rfl, trivial⟩ | exact ⟨rfl, trivial⟩ | exact rfl
    · refine wpAt_of rfl rfl ?_
      simp only [frOf, Act.put]
      go_wp2_with fail
      first | exact ⟨trivial, rfl, trivial, hS⟩ | exact ⟨rfl, trivial, hS⟩ | exact ⟨trivial, rfl, trivial⟩ | exact ⟨rfl, trivial⟩ | exact rfl
    · have k2 : vals 2 = .pointer (some ⟨w.heap.size + 1, 2, none⟩) := hφ 2 (hd 2 (by decide))
      have c2 := hS.cell mI (i := 2) rfl
      dsimp only at c2
      refine wpAt_of rfl rfl ?_
      simp only [frOf, Act.put]
      go_wp2_with fail
      first | exact ⟨trivial, rfl, trivial, hS⟩ | exact ⟨rfl, trivial, hS⟩ | exact ⟨trivial, rfl, trivial⟩ | exact ⟨rfl, trivial⟩ | exact rfl
    · have k1 : vals 1 = .slice (some ⟨sb, off, none⟩) 4 cap := hφ 1 (hd 1 (by decide))
      have k3 : vals 3 = .int .i64 ai := hφ 3 (hd 3 (by decide))
      refine wpAt_of rfl rfl ?_
      simp only [frOf, Act.put]
      go_wp2_with fail
      first | exact ⟨trivial, rfl, trivial, hS⟩ | exact ⟨rfl, trivial, hS⟩ | exact ⟨trivial, rfl, trivial⟩ | exact ⟨rfl, trivial⟩ | exact rfl
    · have k4 : vals 4 = .pointer (some ⟨sb, off + ai * 2, none⟩) := hφ 4 (hd 4 (by decide))
      have dd := I.next hS.beh
      have d0 := dd.lo ai hai
      have d1 := dd.hi ai hai
      clear dd
      refine wpAt_of rfl rfl ?_
      simp only [frOf, Act.put]
      go_wp2_with fail
      first | exact ⟨trivial, rfl, trivial, hS⟩ | exact ⟨rfl, trivial, hS⟩ | exact ⟨trivial, rfl, trivial⟩ | exact ⟨rfl, trivial⟩ | exact rfl
    · refine wpAt_of rfl rfl ?_
      simp only [frOf, Act.put]
      go_wp2_with fail
      refine (itvPlacesS _).mono ?_
      rintro e W' ⟨rfl, hb⟩
      go_wp2_with fail
      first | exact ⟨trivial, rfl, trivial, HX.next hb hS⟩ | exact ⟨rfl, trivial, HX.next hb hS⟩ | exact ⟨trivial, rfl, trivial⟩ | exact ⟨rfl, trivial⟩ | exact rfl
    · have k5 : vals 5 = .agg #[.int .i64 (lo ai), .int .i64 (hi ai)] := hφ 5 (hd 5 (by decide))
      have k6 : vals 6 = .agg #[.int .i64 0, .int .i64 3] := hφ 6 (hd 6 (by decide))
      refine wpAt_of rfl rfl ?_
      simp only [frOf, Act.put]
      go_wp2_with fail
      refine (itvInS _ _ _ _ _).mono ?_
      rintro e W' ⟨rfl, hb⟩
      rw [hq.out]
      go_wp2_with fail
      first | exact ⟨trivial, rfl, trivial, HX.next hb hS⟩ | exact ⟨rfl, trivial, HX.next hb hS⟩ | exact ⟨trivial, rfl, trivial⟩ | exact ⟨rfl, trivial⟩ | exact rfl
    · have k7 : vals 7 = .bool q := hφ 7 (hd 7 (by decide))
      refine wpAt_of rfl rfl ?_
      simp only [frOf, Act.put]
      go_wp2_with fail
      first | exact ⟨trivial, rfl, trivial, hS⟩ | exact ⟨rfl, trivial, hS⟩ | exact ⟨trivial, rfl, trivial⟩ | exact ⟨rfl, trivial⟩ | exact rfl
    · have k8 : vals 8 = .bool !q := hφ 8 (hd 8 (by decide))
      refine wpAt_of rfl rfl ?_
      simp only [frOf, Act.put]
      go_wp2_with fail
      first | exact ⟨trivial, rfl, trivial, hS⟩ | exact ⟨rfl, trivial, hS⟩ | exact ⟨trivial, rfl, trivial⟩ | exact ⟨rfl, trivial⟩ | exact rfl
  · intro L vals W hall hφ hS
    have k0 : vals 0 = .pointer (some ⟨w.heap.size + 1 + 1, 1, none⟩) := hφ 0 (by decide)
    have k1 : vals 1 = .slice (some ⟨sb, off, none⟩) 4 cap := hφ 1 (by decide)
    have k2 : vals 2 = .pointer (some ⟨w.heap.size + 1, 2, none⟩) := hφ 2 (by decide)
    have k3 : vals 3 = .int .i64 ai := hφ 3 (by decide)
    have k4 : vals 4 = .pointer (some ⟨sb, off + ai * 2, none⟩) := hφ 4 (by decide)
    have k5 : vals 5 = .agg #[.int .i64 (lo ai), .int .i64 (hi ai)] := hφ 5 (by decide)
    have k6 : vals 6 = .agg #[.int .i64 0, .int .i64 3] := hφ 6 (by decide)
    have k7 : vals 7 = .bool q := hφ 7 (by decide)
    have k8 : vals 8 = .bool !q := hφ 8 (by decide)
    have k9 : vals 9 = .bool !q := hφ 9 (by decide)
    simp only [frOf, Act.put, List.setIfInBounds_toArray, List.set_cons_succ, List.set_cons_zero, k0, k1, k2, k3, k4, k5, k6, k7, k8, k9]
    clear k0 k1 k2 k3 k4 k5 k6 k7 k8 k9 hall hφ hS0
    have H := hS.1
    go_wp2_with fail
    go_ret
    exact ⟨ret_bool (by rw [← hq.out]; simp [failB]), H.below⟩
set_option maxRecDepth 10000 in
set_option maxHeartbeats 8000000 in
theorem absFailsS_10 (pb po m pc : Nat) (P : Nat → Proc) (S : Nat → Spot) (d : Int) (ai bi ti : Nat) (r l h : Int) (sb off cap : Nat) (lo hi : Nat → Int) (c u : Int) (w : World) (hm : m ≤ 1048576) (hN : ∀ i, i < m → (P i).n ≤ 1048576) (hP : ProcsAt (some ⟨pb, po, none⟩) pb po m P S w) (hC : BndsAt (some ⟨sb, off, none⟩) sb off 4 lo hi w) (hai : ai < 4) (hbi : bi < 4) (hti : ti < m) (g : Hid (canStep P m 10 d ai bi r l h (ti : Int) true 4 lo hi c u = true)) :
    Calls Try.prog 34 #[.agg #[.slice (some ⟨pb, po, none⟩) m pc], .agg #[.int .i64 10, .int .i64 d, .int .i64 (ai : Int), .int .i64 (bi : Int), .int .i64 r, .int .i64 l, .int .i64 h, .int .i64 (ti : Int)], .agg #[.bool true, .slice (some ⟨sb, off, none⟩) 4 cap, .int .i64 c, .int .i64 u]] w fun e w' => e = .returned (.bool (failB 10 r ai bi ti lo hi P)) ∧ Below w.heap.size w w' := by
  have H : HeldL w [(w.heap.size + 1 + 1, [Value.bool true, .slice (some ⟨sb, off, none⟩) 4 cap, .int .i64 c, .int .i64 u]), (w.heap.size + 1, [Value.int .i64 10, .int .i64 d, .int .i64 (ai : Int), .int .i64 (bi : Int), .int .i64 r, .int .i64 l, .int .i64 h, .int .i64 (ti : Int)]), (w.heap.size, [Value.slice (some ⟨pb, po, none⟩) m pc])] (((w.alloc (.cells #[.slice (some ⟨pb, po, none⟩) m pc] 35)).alloc (.cells #[.int .i64 10, .int .i64 d, .int .i64 (ai : Int), .int .i64 (bi : Int), .int .i64 r, .int .i64 l, .int .i64 h, .int .i64 (ti : Int)] 72)).alloc (.cells #[.bool true, .slice (some ⟨sb, off, none⟩) 4 cap, .int .i64 c, .int .i64 u] 77)) := by
    have e1 : w.heap.size + 1 = (w.alloc (.cells #[.slice (some ⟨pb, po, none⟩) m pc] 35)).heap.size := by simp
    have e2 : w.heap.size + 1 + 1 = ((w.alloc (.cells #[.slice (some ⟨pb, po, none⟩) m pc] 35)).alloc (.cells #[.int .i64 10, .int .i64 d, .int .i64 (ai : Int), .int .i64 (bi : Int), .int .i64 r, .int .i64 l, .int .i64 h, .int .i64 (ti : Int)] 72)).heap.size := by simp
    rw [e2, e1]
    exact HeldL.newL (vs := [Value.bool true, .slice (some ⟨sb, off, none⟩) 4 cap, .int .i64 c, .int .i64 u]) (HeldL.newL (vs := [Value.int .i64 10, .int .i64 d, .int .i64 (ai : Int), .int .i64 (bi : Int), .int .i64 r, .int .i64 l, .int .i64 h, .int .i64 (ti : Int)]) (HeldL.newL (vs := [Value.slice (some ⟨pb, po, none⟩) m pc]) (HeldL.nil w)))
  obtain ⟨Lb, hLb⟩ : ∃ L, L = [(w.heap.size + 1 + 1, [Value.bool true, .slice (some ⟨sb, off, none⟩) 4 cap, .int .i64 c, .int .i64 u]), (w.heap.size + 1, [Value.int .i64 10, .int .i64 d, .int .i64 (ai : Int), .int .i64 (bi : Int), .int .i64 r, .int .i64 l, .int .i64 h, .int .i64 (ti : Int)]), (w.heap.size, [Value.slice (some ⟨pb, po, none⟩) m pc])] := ⟨_, rfl⟩
  have mP : (w.heap.size, [Value.slice (some ⟨pb, po, none⟩) m pc]) ∈ Lb := by rw [hLb]; simp
  have mI : (w.heap.size + 1, [Value.int .i64 10, .int .i64 d, .int .i64 (ai : Int), .int .i64 (bi : Int), .int .i64 r, .int .i64 l, .int .i64 h, .int .i64 (ti : Int)]) ∈ Lb := by rw [hLb]; simp
  have mS : (w.heap.size + 1 + 1, [Value.bool true, .slice (some ⟨sb, off, none⟩) 4 cap, .int .i64 c, .int .i64 u]) ∈ Lb := by rw [hLb]; simp
  rw [← hLb] at H
  clear hLb
  have I := hC.next H.below
  have Q := hP.next H.below
  clear hC hP
  go_enter Try.func34, Try.ntmps34
  go_wp2_with fail
  refine (fitS _ _ _ _ _ _ _ _ _ _ _ _ _ _ _ _ _ _ _ _ _ _ _ _ _ _ hm hN (by omega) Q I).mono ?_
  rintro e w1 ⟨rfl, hb⟩
  rw [g.out]
  replace H := H.next hb
  replace I := I.next hb
  replace Q := Q.next hb
  clear hb
  clear hm hN
  have c0 := H.cell mI (i := 0) rfl
  dsimp only at c0
  have t1ai : ((ai : Int)).toNat = ai := by omega
  have t2ai : (0 : Int) ≤ (ai : Int) := by omega
  have t3ai : (ai : Int) < 4 := by omega
  have t1bi : ((bi : Int)).toNat = bi := by omega
  have t2bi : (0 : Int) ≤ (bi : Int) := by omega
  have t3bi : (bi : Int) < 4 := by omega
  obtain ⟨q, hq'⟩ : ∃ q, itvIn (lo ai) (hi ai) (P ti).lo (P ti).hi = q := ⟨_, rfl⟩
  have hq : Hid (itvIn (lo ai) (hi ai) (P ti).lo (P ti).hi = q) := hq'
  clear hq'
  have hS0 : HX w w1 Lb w1.drew := ⟨H.drew, (Below.refl _ w1).drew⟩
  clear H
  go_wp2_with fail
  refine region_inv3 [(0, 40), (1, 41), (2, 42), (3, 43), (4, 44), (5, 45), (6, 46), (7, 47), (8, 48), (9, 49), (10, 50), (11, 6)]
    (fun j v _ => match j with
      | 0 => Is (.pointer (some ⟨w.heap.size + 1 + 1, 1, none⟩)) v
      | 1 => Is (.slice (some ⟨sb, off, none⟩) 4 cap) v
      | 2 => Is (.pointer (some ⟨w.heap.size + 1, 2, none⟩)) v
      | 3 => Is (.int .i64 ai) v
      | 4 => Is (.pointer (some ⟨sb, off + ai * 2, none⟩)) v
      | 5 => Is (.agg #[.int .i64 (lo ai), .int .i64 (hi ai)]) v
      | 6 => Is (.agg #[.slice (some ⟨pb, po, none⟩) m pc]) v
      | 7 => Is (.agg #[.int .i64 10, .int .i64 d, .int .i64 (ai : Int), .int .i64 (bi : Int), .int .i64 r, .int .i64 l, .int .i64 h, .int .i64 (ti : Int)]) v
      | 8 => Is (.agg #[.int .i64 (P ti).lo, .int .i64 (P ti).hi]) v
      | 9 => Is (.bool q) v
      | 10 => Is (.bool !q) v
      | 11 => Is (.bool !q) v
      | _ => True)
    (fun _ W => HX w w1 Lb W) TT
    (by kernel_rfl) (by kernel_rfl) (by kernel_rfl) (by kernel_rfl) (by kernel_rfl) rfl hS0 (fun i j v W W' _ h _ => h) ?_ ?_
  · intro i L vals W hi' hφ hS hL hd
    have hi2 : i < 12 := hi'
    clear hi'
    rcases (show i = 0 ∨ i = 1 ∨ i = 2 ∨ i = 3 ∨ i = 4 ∨ i = 5 ∨ i = 6 ∨ i = 7 ∨ i = 8 ∨ i = 9 ∨ i = 10 ∨ i = 11 by omega) with rfl | rfl | rfl | rfl | rfl | rfl | rfl | rfl | rfl | rfl | rfl | rfl
    · refine wpAt_of rfl rfl ?_
      simp only [frOf, Act.put]
      go_wp2_with fail
      first | exact ⟨trivial, rfl, trivial, hS⟩ | exact ⟨rfl, trivial, hS⟩ | exact ⟨trivial, rfl, trivial⟩ | exact ⟨rfl, trivial⟩ | exact rfl
    · have k0 : vals 0 = .pointer (some ⟨w.heap.size + 1 + 1, 1, none⟩) := hφ 0 (hd 0 (by decide))
      have c1 := hS.cell mS (i := 1) rfl
      dsimp only at c1
      refine wpAt_of rfl rfl ?_
      simp only [frOf, Act.put]
      go_wp2_with fail
      first | exact ⟨trivial, rfl, trivial, hS⟩ | exact ⟨rfl, trivial, hS⟩ | exact ⟨trivial, rfl, trivial⟩ | exact ⟨rfl, trivial⟩ | exact rfl
    · refine wpAt_of rfl rfl ?_
      simp only [frOf, Act.put]
      go_wp2_with fail
      first | exact ⟨trivial, rfl, trivial, hS⟩ | exact ⟨rfl, trivial, hS⟩ | exact ⟨trivial, rfl, trivial⟩ | exact ⟨rfl, trivial⟩ | exact rfl
    · have k2 : vals 2 = .pointer (some ⟨w.heap.size + 1, 2, none⟩) := hφ 2 (hd 2 (by decide))
      have c2 := hS.cell mI (i := 2) rfl
      dsimp only at c2
      refine wpAt_of rfl rfl ?_
      simp only [frOf, Act.put]
      go_wp2_with fail
      first | exact ⟨trivial, rfl, trivial, hS⟩ | exact ⟨rfl, trivial, hS⟩ | exact ⟨trivial, rfl, trivial⟩ | exact ⟨rfl, trivial⟩ | exact rfl
    · have k1 : vals 1 = .slice (some ⟨sb, off, none⟩) 4 cap := hφ 1 (hd 1 (by decide))
      have k3 : vals 3 = .int .i64 ai := hφ 3 (hd 3 (by decide))
      refine wpAt_of rfl rfl ?_
      simp only [frOf, Act.put]
      go_wp2_with fail
      first | exact ⟨trivial, rfl, trivial, hS⟩ | exact ⟨rfl, trivial, hS⟩ | exact ⟨trivial, rfl, trivial⟩ | exact ⟨rfl, trivial⟩ | exact rfl
    · have k4 : vals 4 = .pointer (some ⟨sb, off + ai * 2, none⟩) := hφ 4 (hd 4 (by decide))
      have dd := I.next hS.beh
      have d0 := dd.lo ai hai
      have d1 := dd.hi ai hai
      clear dd
      refine wpAt_of rfl rfl ?_
      simp only [frOf, Act.put]
      go_wp2_with fail
      first | exact ⟨trivial, rfl, trivial, hS⟩ | exact ⟨rfl, trivial, hS⟩ | exact ⟨trivial, rfl, trivial⟩ | exact ⟨rfl, trivial⟩ | exact rfl
    · have y0 := hS.cell mP (i := 0) rfl
      dsimp only at y0
      refine wpAt_of rfl rfl ?_
      simp only [frOf, Act.put]
      go_wp2_with fail
      first | exact ⟨trivial, rfl, trivial, hS⟩ | exact ⟨rfl, trivial, hS⟩ | exact ⟨trivial, rfl, trivial⟩ | exact ⟨rfl, trivial⟩ | exact rfl
    · have x0 := hS.cell mI (i := 0) rfl
      have x1 := hS.cell mI (i := 1) rfl
      have x2 := hS.cell mI (i := 2) rfl
      have x3 := hS.cell mI (i := 3) rfl
      have x4 := hS.cell mI (i := 4) rfl
      have x5 := hS.cell mI (i := 5) rfl
      have x6 := hS.cell mI (i := 6) rfl
      have x7 := hS.cell mI (i := 7) rfl
      dsimp only at x0 x1 x2 x3 x4 x5 x6 x7
      refine wpAt_of rfl rfl ?_
      simp only [frOf, Act.put]
      go_wp2_with fail
      first | exact ⟨trivial, rfl, trivial, hS⟩ | exact ⟨rfl, trivial, hS⟩ | exact ⟨trivial, rfl, trivial⟩ | exact ⟨rfl, trivial⟩ | exact rfl
    · have k6 : vals 6 = .agg #[.slice (some ⟨pb, po, none⟩) m pc] := hφ 6 (hd 6 (by decide))
      have k7 : vals 7 = .agg #[.int .i64 10, .int .i64 d, .int .i64 (ai : Int), .int .i64 (bi : Int), .int .i64 r, .int .i64 l, .int .i64 h, .int .i64 (ti : Int)] := hφ 7 (hd 7 (by decide))
      refine wpAt_of rfl rfl ?_
      simp only [frOf, Act.put]
      go_wp2_with fail
      refine (givenS _ _ _ _ _ _ _ _ _ _ _ _ _ _ _ _ hti (Q.next hS.beh)).mono ?_
      rintro e W' ⟨rfl, hb⟩
      go_wp2_with fail
      first | exact ⟨trivial, rfl, trivial, HX.next hb hS⟩ | exact ⟨rfl, trivial, HX.next hb hS⟩ | exact ⟨trivial, rfl, trivial⟩ | exact ⟨rfl, trivial⟩ | exact rfl
    · have k5 : vals 5 = .agg #[.int .i64 (lo ai), .int .i64 (hi ai)] := hφ 5 (hd 5 (by decide))
      have k8 : vals 8 = .agg #[.int .i64 (P ti).lo, .int .i64 (P ti).hi] := hφ 8 (hd 8 (by decide))
      refine wpAt_of rfl rfl ?_
      simp only [frOf, Act.put]
      go_wp2_with fail
      refine (itvInS _ _ _ _ _).mono ?_
      rintro e W' ⟨rfl, hb⟩
      rw [hq.out]
      go_wp2_with fail
      first | exact ⟨trivial, rfl, trivial, HX.next hb hS⟩ | exact ⟨rfl, trivial, HX.next hb hS⟩ | exact ⟨trivial, rfl, trivial⟩ | exact ⟨rfl, trivial⟩ | exact rfl
    · have k9 : vals 9 = .bool q := hφ 9 (hd 9 (by decide))
      refine wpAt_of rfl rfl ?_
      simp only [frOf, Act.put]
      go_wp2_with fail
      first | exact ⟨trivial, rfl, trivial, hS⟩ | exact ⟨rfl, trivial, hS⟩ | exact ⟨trivial, rfl, trivial⟩ | exact ⟨rfl, trivial⟩ | exact rfl
    · have k10 : vals 10 = .bool !q := hφ 10 (hd 10 (by decide))
      refine wpAt_of rfl rfl ?_
      simp only [frOf, Act.put]
      go_wp2_with fail
      first | exact ⟨trivial, rfl, trivial, hS⟩ | exact ⟨rfl, trivial, hS⟩ | exact ⟨trivial, rfl, trivial⟩ | exact ⟨rfl, trivial⟩ | exact rfl
  · intro L vals W hall hφ hS
    have k0 : vals 0 = .pointer (some ⟨w.heap.size + 1 + 1, 1, none⟩) := hφ 0 (by decide)
    have k1 : vals 1 = .slice (some ⟨sb, off, none⟩) 4 cap := hφ 1 (by decide)
    have k2 : vals 2 = .pointer (some ⟨w.heap.size + 1, 2, none⟩) := hφ 2 (by decide)
    have k3 : vals 3 = .int .i64 ai := hφ 3 (by decide)
    have k4 : vals 4 = .pointer (some ⟨sb, off + ai * 2, none⟩) := hφ 4 (by decide)
    have k5 : vals 5 = .agg #[.int .i64 (lo ai), .int .i64 (hi ai)] := hφ 5 (by decide)
    have k6 : vals 6 = .agg #[.slice (some ⟨pb, po, none⟩) m pc] := hφ 6 (by decide)
    have k7 : vals 7 = .agg #[.int .i64 10, .int .i64 d, .int .i64 (ai : Int), .int .i64 (bi : Int), .int .i64 r, .int .i64 l, .int .i64 h, .int .i64 (ti : Int)] := hφ 7 (by decide)
    have k8 : vals 8 = .agg #[.int .i64 (P ti).lo, .int .i64 (P ti).hi] := hφ 8 (by decide)
    have k9 : vals 9 = .bool q := hφ 9 (by decide)
    have k10 : vals 10 = .bool !q := hφ 10 (by decide)
    have k11 : vals 11 = .bool !q := hφ 11 (by decide)
    simp only [frOf, Act.put, List.setIfInBounds_toArray, List.set_cons_succ, List.set_cons_zero, k0, k1, k2, k3, k4, k5, k6, k7, k8, k9, k10, k11]
    clear k0 k1 k2 k3 k4 k5 k6 k7 k8 k9 k10 k11 hall hφ hS0
    have H := hS.1
    go_wp2_with fail
    go_ret
    exact ⟨ret_bool (by rw [← hq.out]; simp [failB]), H.below⟩
set_option maxRecDepth 10000 in
set_option maxHeartbeats 8000000 in
theorem absFailsS_11 (pa : Option Addr) (pb po m pc : Nat) (P : Nat → Proc) (S : Nat → Spot) (d : Int) (ai bi : Nat) (r l h t : Int) (sb off cap : Nat) (lo hi : Nat → Int) (c u : Int) (w : World) (hm : m ≤ 1048576) (hN : ∀ i, i < m → (P i).n ≤ 1048576) (hP : ProcsAt pa pb po m P S w) (hC : BndsAt (some ⟨sb, off, none⟩) sb off 4 lo hi w) (hai : ai < 4) (hbi : bi < 4) (g : Hid (canStep P m 11 d ai bi r l h t true 4 lo hi c u = true)) :
    Calls Try.prog 34 #[.agg #[.slice pa m pc], .agg #[.int .i64 11, .int .i64 d, .int .i64 (ai : Int), .int .i64 (bi : Int), .int .i64 r, .int .i64 l, .int .i64 h, .int .i64 t], .agg #[.bool true, .slice (some ⟨sb, off, none⟩) 4 cap, .int .i64 c, .int .i64 u]] w fun e w' => e = .returned (.bool (failB 11 r ai bi t.toNat lo hi P)) ∧ Below w.heap.size w w' := by
  have H : HeldL w [(w.heap.size + 1 + 1, [Value.bool true, .slice (some ⟨sb, off, none⟩) 4 cap, .int .i64 c, .int .i64 u]), (w.heap.size + 1, [Value.int .i64 11, .int .i64 d, .int .i64 (ai : Int), .int .i64 (bi : Int), .int .i64 r, .int .i64 l, .int .i64 h, .int .i64 t]), (w.heap.size, [Value.slice pa m pc])] (((w.alloc (.cells #[.slice pa m pc] 35)).alloc (.cells #[.int .i64 11, .int .i64 d, .int .i64 (ai : Int), .int .i64 (bi : Int), .int .i64 r, .int .i64 l, .int .i64 h, .int .i64 t] 72)).alloc (.cells #[.bool true, .slice (some ⟨sb, off, none⟩) 4 cap, .int .i64 c, .int .i64 u] 77)) := by
    have e1 : w.heap.size + 1 = (w.alloc (.cells #[.slice pa m pc] 35)).heap.size := by simp
    have e2 : w.heap.size + 1 + 1 = ((w.alloc (.cells #[.slice pa m pc] 35)).alloc (.cells #[.int .i64 11, .int .i64 d, .int .i64 (ai : Int), .int .i64 (bi : Int), .int .i64 r, .int .i64 l, .int .i64 h, .int .i64 t] 72)).heap.size := by simp
    rw [e2, e1]
    exact HeldL.newL (vs := [Value.bool true, .slice (some ⟨sb, off, none⟩) 4 cap, .int .i64 c, .int .i64 u]) (HeldL.newL (vs := [Value.int .i64 11, .int .i64 d, .int .i64 (ai : Int), .int .i64 (bi : Int), .int .i64 r, .int .i64 l, .int .i64 h, .int .i64 t]) (HeldL.newL (vs := [Value.slice pa m pc]) (HeldL.nil w)))
  obtain ⟨Lb, hLb⟩ : ∃ L, L = [(w.heap.size + 1 + 1, [Value.bool true, .slice (some ⟨sb, off, none⟩) 4 cap, .int .i64 c, .int .i64 u]), (w.heap.size + 1, [Value.int .i64 11, .int .i64 d, .int .i64 (ai : Int), .int .i64 (bi : Int), .int .i64 r, .int .i64 l, .int .i64 h, .int .i64 t]), (w.heap.size, [Value.slice pa m pc])] := ⟨_, rfl⟩
  have mP : (w.heap.size, [Value.slice pa m pc]) ∈ Lb := by rw [hLb]; simp
  have mI : (w.heap.size + 1, [Value.int .i64 11, .int .i64 d, .int .i64 (ai : Int), .int .i64 (bi : Int), .int .i64 r, .int .i64 l, .int .i64 h, .int .i64 t]) ∈ Lb := by rw [hLb]; simp
  have mS : (w.heap.size + 1 + 1, [Value.bool true, .slice (some ⟨sb, off, none⟩) 4 cap, .int .i64 c, .int .i64 u]) ∈ Lb := by rw [hLb]; simp
  rw [← hLb] at H
  clear hLb
  have I := hC.next H.below
  have Q := hP.next H.below
  clear hC hP
  go_enter Try.func34, Try.ntmps34
  go_wp2_with fail
  refine (fitS _ _ _ _ _ _ _ _ _ _ _ _ _ _ _ _ _ _ _ _ _ _ _ _ _ _ hm hN (by omega) Q I).mono ?_
  rintro e w1 ⟨rfl, hb⟩
  rw [g.out]
  replace H := H.next hb
  replace I := I.next hb
  replace Q := Q.next hb
  clear hb
  clear hm hN
  have c0 := H.cell mI (i := 0) rfl
  dsimp only at c0
  have t1ai : ((ai : Int)).toNat = ai := by omega
  have t2ai : (0 : Int) ≤ (ai : Int) := by omega
  have t3ai : (ai : Int) < 4 := by omega
  have t1bi : ((bi : Int)).toNat = bi := by omega
  have t2bi : (0 : Int) ≤ (bi : Int) := by omega
  have t3bi : (bi : Int) < 4 := by omega
  obtain ⟨q, hq'⟩ : ∃ q, itvNot r (lo ai) (hi ai) (lo bi) (hi bi) = q := ⟨_, rfl⟩
  have hq : Hid (itvNot r (lo ai) (hi ai) (lo bi) (hi bi) = q) := hq'
  clear hq'
  have hS0 : HX w w1 Lb w1.drew := ⟨H.drew, (Below.refl _ w1).drew⟩
  have hN1 : ∀ e ∈ Lb, e.1 < w1.heap.size := fun e he => HeldL.size H he
  have hN2 : w.heap.size ≤ w1.heap.size := H.below.size
  clear H
  go_wp2_with fail
  refine region_inv4 [(0, 54), (1, 55), (2, 56), (3, 57), (4, 58), (5, 59), (6, 60), (7, 61), (8, 62), (9, 63), (10, 64), (11, 65), (12, 66), (13, 67), (14, 68), (15, 53), (16, 69), (17, 70), (18, 71), (19, 7), (20, 8), (23, 9)]
    (fun j v => match j with
      | 0 => Is (.pointer (some ⟨w.heap.size + 1, 4, none⟩)) v
      | 1 => Is (.int .i64 r) v
      | 2 => Is (.pointer (some ⟨w.heap.size + 1 + 1, 1, none⟩)) v
      | 3 => Is (.slice (some ⟨sb, off, none⟩) 4 cap) v
      | 4 => Is (.pointer (some ⟨w.heap.size + 1, 2, none⟩)) v
      | 5 => Is (.int .i64 ai) v
      | 6 => Is (.pointer (some ⟨sb, off + ai * 2, none⟩)) v
      | 7 => Is (.agg #[.int .i64 (lo ai), .int .i64 (hi ai)]) v
      | 8 => Is (.pointer (some ⟨w.heap.size + 1 + 1, 1, none⟩)) v
      | 9 => Is (.slice (some ⟨sb, off, none⟩) 4 cap) v
      | 10 => Is (.pointer (some ⟨w.heap.size + 1, 3, none⟩)) v
      | 11 => Is (.int .i64 bi) v
      | 12 => Is (.pointer (some ⟨sb, off + bi * 2, none⟩)) v
      | 13 => Is (.agg #[.int .i64 (lo bi), .int .i64 (hi bi)]) v
      | 14 => Is (.tuple #[.agg #[.int .i64 q.l0, .int .i64 q.h0], .agg #[.int .i64 q.l1, .int .i64 q.h1], .bool q.ok]) v
      | 15 => Is (.tuple #[.agg #[.int .i64 q.l0, .int .i64 q.h0], .agg #[.int .i64 q.l1, .int .i64 q.h1], .bool q.ok]) v
      | 16 => Is (.agg #[.int .i64 q.l0, .int .i64 q.h0]) v
      | 17 => Is (.agg #[.int .i64 q.l1, .int .i64 q.h1]) v
      | 18 => Is (.bool q.ok) v
      | 23 => Is (.bool q.ok) v
      | _ => True)
    (fun L vals W => HX w w1 Lb W ∧ Mk2 w1.heap.size 19 L vals W ∧ Mk2 w1.heap.size 20 L vals W)
    (by kernel_rfl) (by kernel_rfl) (by kernel_rfl) (by kernel_rfl) (by kernel_rfl) rfl (fun _ => ⟨hS0, Mk2.start (Nat.le_refl _), Mk2.start (Nat.le_refl _)⟩) ?_ ?_
  · intro i L vals W hi' hφ hSS hL hd
    have hi2 : i < 24 := hi'
    obtain ⟨hS, hB19, hB20⟩ := hSS
    clear hi'
    rcases (show i = 0 ∨ i = 1 ∨ i = 2 ∨ i = 3 ∨ i = 4 ∨ i = 5 ∨ i = 6 ∨ i = 7 ∨ i = 8 ∨ i = 9 ∨ i = 10 ∨ i = 11 ∨ i = 12 ∨ i = 13 ∨ i = 14 ∨ i = 15 ∨ i = 16 ∨ i = 17 ∨ i = 18 ∨ i = 19 ∨ i = 20 ∨ i = 21 ∨ i = 22 ∨ i = 23 by omega) with rfl | rfl | rfl | rfl | rfl | rfl | rfl | rfl | rfl | rfl | rfl | rfl | rfl | rfl | rfl | rfl | rfl | rfl | rfl | rfl | rfl | rfl | rfl | rfl
    · refine wpAt_of rfl rfl ?_
      simp only [frOf, Act.put]
      go_wp2_with fail
      first | exact ⟨trivial, rfl, hS, hB19.next (Below.refl _ _) (by decide), hB20.next (Below.refl _ _) (by decide)⟩ | exact ⟨rfl, hS, hB19.next (Below.refl _ _) (by decide), hB20.next (Below.refl _ _) (by decide)⟩ | exact ⟨trivial, trivial, rfl, hS, hB19.next (Below.refl _ _) (by decide), hB20.next (Below.refl _ _) (by decide)⟩
    · have k0 : vals 0 = .pointer (some ⟨w.heap.size + 1, 4, none⟩) := hφ 0 (hd 0 (by decide))
      have c4 := hS.cell mI (i := 4) rfl
      dsimp only at c4
      refine wpAt_of rfl rfl ?_
      simp only [frOf, Act.put]
      go_wp2_with fail
      first | exact ⟨trivial, rfl, hS, hB19.next (Below.refl _ _) (by decide), hB20.next (Below.refl _ _) (by decide)⟩ | exact ⟨rfl, hS, hB19.next (Below.refl _ _) (by decide), hB20.next (Below.refl _ _) (by decide)⟩ | exact ⟨trivial, trivial, rfl, hS, hB19.next (Below.refl _ _) (by decide), hB20.next (Below.refl _ _) (by decide)⟩
    · refine wpAt_of rfl rfl ?_
      simp only [frOf, Act.put]
      go_wp2_with fail
      first | exact ⟨trivial, rfl, hS, hB19.next (Below.refl _ _) (by decide), hB20.next (Below.refl _ _) (by decide)⟩ | exact ⟨rfl, hS, hB19.next (Below.refl _ _) (by decide), hB20.next (Below.refl _ _) (by decide)⟩ | exact ⟨trivial, trivial, rfl, hS, hB19.next (Below.refl _ _) (by decide), hB20.next (Below.refl _ _) (by decide)⟩
    · have k2 : vals 2 = .pointer (some ⟨w.heap.size + 1 + 1, 1, none⟩) := hφ 2 (hd 2 (by decide))
      have c1 := hS.cell mS (i := 1) rfl
      dsimp only at c1
      refine wpAt_of rfl rfl ?_
      simp only [frOf, Act.put]
      go_wp2_with fail
      first | exact ⟨trivial, rfl, hS, hB19.next (Below.refl _ _) (by decide), hB20.next (Below.refl _ _) (by decide)⟩ | exact ⟨rfl, hS, hB19.next (Below.refl _ _) (by decide), hB20.next (Below.refl _ _) (by decide)⟩ | exact ⟨trivial, trivial, rfl, hS, hB19.next (Below.refl _ _) (by decide), hB20.next (Below.refl _ _) (by decide)⟩
    · refine wpAt_of rfl rfl ?_
      simp only [frOf, Act.put]
      go_wp2_with fail
      first | exact ⟨trivial, rfl, hS, hB19.next (Below.refl _ _) (by decide), hB20.next (Below.refl _ _) (by decide)⟩ | exact ⟨rfl, hS, hB19.next (Below.refl _ _) (by decide), hB20.next (Below.refl _ _) (by decide)⟩ | exact ⟨trivial, trivial, rfl, hS, hB19.next (Below.refl _ _) (by decide), hB20.next (Below.refl _ _) (by decide)⟩
    · have k4 : vals 4 = .pointer (some ⟨w.heap.size + 1, 2, none⟩) := hφ 4 (hd 4 (by decide))
      have c2 := hS.cell mI (i := 2) rfl
      dsimp only at c2
      refine wpAt_of rfl rfl ?_
      simp only [frOf, Act.put]
      go_wp2_with fail
      first | exact ⟨trivial, rfl, hS, hB19.next (Below.refl _ _) (by decide), hB20.next (Below.refl _ _) (by decide)⟩ | exact ⟨rfl, hS, hB19.next (Below.refl _ _) (by decide), hB20.next (Below.refl _ _) (by decide)⟩ | exact ⟨trivial, trivial, rfl, hS, hB19.next (Below.refl _ _) (by decide), hB20.next (Below.refl _ _) (by decide)⟩
    · have k3 : vals 3 = .slice (some ⟨sb, off, none⟩) 4 cap := hφ 3 (hd 3 (by decide))
      have k5 : vals 5 = .int .i64 ai := hφ 5 (hd 5 (by decide))
      refine wpAt_of rfl rfl ?_
      simp only [frOf, Act.put]
      go_wp2_with fail
      first | exact ⟨trivial, rfl, hS, hB19.next (Below.refl _ _) (by decide), hB20.next (Below.refl _ _) (by decide)⟩ | exact ⟨rfl, hS, hB19.next (Below.refl _ _) (by decide), hB20.next (Below.refl _ _) (by decide)⟩ | exact ⟨trivial, trivial, rfl, hS, hB19.next (Below.refl _ _) (by decide), hB20.next (Below.refl _ _) (by decide)⟩
    · have k6 : vals 6 = .pointer (some ⟨sb, off + ai * 2, none⟩) := hφ 6 (hd 6 (by decide))
      have dd := I.next hS.beh
      have d0 := dd.lo ai hai
      have d1 := dd.hi ai hai
      clear dd
      refine wpAt_of rfl rfl ?_
      simp only [frOf, Act.put]
      go_wp2_with fail
      first | exact ⟨trivial, rfl, hS, hB19.next (Below.refl _ _) (by decide), hB20.next (Below.refl _ _) (by decide)⟩ | exact ⟨rfl, hS, hB19.next (Below.refl _ _) (by decide), hB20.next (Below.refl _ _) (by decide)⟩ | exact ⟨trivial, trivial, rfl, hS, hB19.next (Below.refl _ _) (by decide), hB20.next (Below.refl _ _) (by decide)⟩
    · refine wpAt_of rfl rfl ?_
      simp only [frOf, Act.put]
      go_wp2_with fail
      first | exact ⟨trivial, rfl, hS, hB19.next (Below.refl _ _) (by decide), hB20.next (Below.refl _ _) (by decide)⟩ | exact ⟨rfl, hS, hB19.next (Below.refl _ _) (by decide), hB20.next (Below.refl _ _) (by decide)⟩ | exact ⟨trivial, trivial, rfl, hS, hB19.next (Below.refl _ _) (by decide), hB20.next (Below.refl _ _) (by decide)⟩
    · have k8 : vals 8 = .pointer (some ⟨w.heap.size + 1 + 1, 1, none⟩) := hφ 8 (hd 8 (by decide))
      have c1 := hS.cell mS (i := 1) rfl
      dsimp only at c1
      refine wpAt_of rfl rfl ?_
      simp only [frOf, Act.put]
      go_wp2_with fail
      first | exact ⟨trivial, rfl, hS, hB19.next (Below.refl _ _) (by decide), hB20.next (Below.refl _ _) (by decide)⟩ | exact ⟨rfl, hS, hB19.next (Below.refl _ _) (by decide), hB20.next (Below.refl _ _) (by decide)⟩ | exact ⟨trivial, trivial, rfl, hS, hB19.next (Below.refl _ _) (by decide), hB20.next (Below.refl _ _) (by decide)⟩
    · refine wpAt_of rfl rfl ?_
      simp only [frOf, Act.put]
      go_wp2_with fail
      first | exact ⟨trivial, rfl, hS, hB19.next (Below.refl _ _) (by decide), hB20.next (Below.refl _ _) (by decide)⟩ | exact ⟨rfl, hS, hB19.next (Below.refl _ _) (by decide), hB20.next (Below.refl _ _) (by decide)⟩ | exact ⟨trivial, trivial, rfl, hS, hB19.next (Below.refl _ _) (by decide), hB20.next (Below.refl _ _) (by decide)⟩
    · have k10 : vals 10 = .pointer (some ⟨w.heap.size + 1, 3, none⟩) := hφ 10 (hd 10 (by decide))
      have c3 := hS.cell mI (i := 3) rfl
      dsimp only at c3
      refine wpAt_of rfl rfl ?_
      simp only [frOf, Act.put]
      go_wp2_with fail
      first | exact ⟨trivial, rfl, hS, hB19.next (Below.refl _ _) (by decide), hB20.next (Below.refl _ _) (by decide)⟩ | exact ⟨rfl, hS, hB19.next (Below.refl _ _) (by decide), hB20.next (Below.refl _ _) (by decide)⟩ | exact ⟨trivial, trivial, rfl, hS, hB19.next (Below.refl _ _) (by decide), hB20.next (Below.refl _ _) (by decide)⟩
    · have k9 : vals 9 = .slice (some ⟨sb, off, none⟩) 4 cap := hφ 9 (hd 9 (by decide))
      have k11 : vals 11 = .int .i64 bi := hφ 11 (hd 11 (by decide))
      refine wpAt_of rfl rfl ?_
      simp only [frOf, Act.put]
      go_wp2_with fail
      first | exact ⟨trivial, rfl, hS, hB19.next (Below.refl _ _) (by decide), hB20.next (Below.refl _ _) (by decide)⟩ | exact ⟨rfl, hS, hB19.next (Below.refl _ _) (by decide), hB20.next (Below.refl _ _) (by decide)⟩ | exact ⟨trivial, trivial, rfl, hS, hB19.next (Below.refl _ _) (by decide), hB20.next (Below.refl _ _) (by decide)⟩
    · have k12 : vals 12 = .pointer (some ⟨sb, off + bi * 2, none⟩) := hφ 12 (hd 12 (by decide))
      have dd := I.next hS.beh
      have d0 := dd.lo bi hbi
      have d1 := dd.hi bi hbi
      clear dd
      refine wpAt_of rfl rfl ?_
      simp only [frOf, Act.put]
      go_wp2_with fail
      first | exact ⟨trivial, rfl, hS, hB19.next (Below.refl _ _) (by decide), hB20.next (Below.refl _ _) (by decide)⟩ | exact ⟨rfl, hS, hB19.next (Below.refl _ _) (by decide), hB20.next (Below.refl _ _) (by decide)⟩ | exact ⟨trivial, trivial, rfl, hS, hB19.next (Below.refl _ _) (by decide), hB20.next (Below.refl _ _) (by decide)⟩
    · have k1 : vals 1 = .int .i64 r := hφ 1 (hd 1 (by decide))
      have k7 : vals 7 = .agg #[.int .i64 (lo ai), .int .i64 (hi ai)] := hφ 7 (hd 7 (by decide))
      have k13 : vals 13 = .agg #[.int .i64 (lo bi), .int .i64 (hi bi)] := hφ 13 (hd 13 (by decide))
      refine wpAt_of rfl rfl ?_
      simp only [frOf, Act.put]
      go_wp2_with fail
      refine (itvNotS _ _ _ _ _ _).mono ?_
      rintro e W' ⟨rfl, hb⟩
      rw [hq.out]
      go_wp2_with fail
      first | exact ⟨trivial, rfl, HX.next hb hS, hB19.next hb (by decide), hB20.next hb (by decide)⟩ | exact ⟨rfl, HX.next hb hS, hB19.next hb (by decide), hB20.next hb (by decide)⟩ | exact ⟨trivial, trivial, rfl, HX.next hb hS, hB19.next hb (by decide), hB20.next hb (by decide)⟩
    · have k14 : vals 14 = .tuple #[.agg #[.int .i64 q.l0, .int .i64 q.h0], .agg #[.int .i64 q.l1, .int .i64 q.h1], .bool q.ok] := hφ 14 (hd 14 (by decide))
      refine wpAt_of rfl rfl ?_
      simp only [frOf, Act.put]
      go_wp2_with fail
      first | exact ⟨trivial, rfl, hS, hB19.next (Below.refl _ _) (by decide), hB20.next (Below.refl _ _) (by decide)⟩ | exact ⟨rfl, hS, hB19.next (Below.refl _ _) (by decide), hB20.next (Below.refl _ _) (by decide)⟩ | exact ⟨trivial, trivial, rfl, hS, hB19.next (Below.refl _ _) (by decide), hB20.next (Below.refl _ _) (by decide)⟩
    · have k15 : vals 15 = .tuple #[.agg #[.int .i64 q.l0, .int .i64 q.h0], .agg #[.int .i64 q.l1, .int .i64 q.h1], .bool q.ok] := hφ 15 (hd 15 (by decide))
      refine wpAt_of rfl rfl ?_
      simp only [frOf, Act.put]
      go_wp2_with fail
      first | exact ⟨trivial, rfl, hS, hB19.next (Below.refl _ _) (by decide), hB20.next (Below.refl _ _) (by decide)⟩ | exact ⟨rfl, hS, hB19.next (Below.refl _ _) (by decide), hB20.next (Below.refl _ _) (by decide)⟩ | exact ⟨trivial, trivial, rfl, hS, hB19.next (Below.refl _ _) (by decide), hB20.next (Below.refl _ _) (by decide)⟩
    · have k15 : vals 15 = .tuple #[.agg #[.int .i64 q.l0, .int .i64 q.h0], .agg #[.int .i64 q.l1, .int .i64 q.h1], .bool q.ok] := hφ 15 (hd 15 (by decide))
      refine wpAt_of rfl rfl ?_
      simp only [frOf, Act.put]
      go_wp2_with fail
      first | exact ⟨trivial, rfl, hS, hB19.next (Below.refl _ _) (by decide), hB20.next (Below.refl _ _) (by decide)⟩ | exact ⟨rfl, hS, hB19.next (Below.refl _ _) (by decide), hB20.next (Below.refl _ _) (by decide)⟩ | exact ⟨trivial, trivial, rfl, hS, hB19.next (Below.refl _ _) (by decide), hB20.next (Below.refl _ _) (by decide)⟩
    · have k15 : vals 15 = .tuple #[.agg #[.int .i64 q.l0, .int .i64 q.h0], .agg #[.int .i64 q.l1, .int .i64 q.h1], .bool q.ok] := hφ 15 (hd 15 (by decide))
      refine wpAt_of rfl rfl ?_
      simp only [frOf, Act.put]
      go_wp2_with fail
      first | exact ⟨trivial, rfl, hS, hB19.next (Below.refl _ _) (by decide), hB20.next (Below.refl _ _) (by decide)⟩ | exact ⟨rfl, hS, hB19.next (Below.refl _ _) (by decide), hB20.next (Below.refl _ _) (by decide)⟩ | exact ⟨trivial, trivial, rfl, hS, hB19.next (Below.refl _ _) (by decide), hB20.next (Below.refl _ _) (by decide)⟩
    · refine wpAt_of rfl rfl ?_
      simp only [frOf, Act.put]
      go_wp2_with fail
      first | exact ⟨trivial, HX.alloc _ hS, hB19.made hL, hB20.next ((Below.refl _ _).alloc (Nat.le_refl _) _) (by decide)⟩ | exact ⟨HX.alloc _ hS, hB19.made hL, hB20.next ((Below.refl _ _).alloc (Nat.le_refl _) _) (by decide)⟩ | exact ⟨trivial, trivial, HX.alloc _ hS, hB19.made hL, hB20.next ((Below.refl _ _).alloc (Nat.le_refl _) _) (by decide)⟩
    · refine wpAt_of rfl rfl ?_
      simp only [frOf, Act.put]
      go_wp2_with fail
      first | exact ⟨trivial, HX.alloc _ hS, hB19.next ((Below.refl _ _).alloc (Nat.le_refl _) _) (by decide), hB20.made hL⟩ | exact ⟨HX.alloc _ hS, hB19.next ((Below.refl _ _).alloc (Nat.le_refl _) _) (by decide), hB20.made hL⟩ | exact ⟨trivial, trivial, HX.alloc _ hS, hB19.next ((Below.refl _ _).alloc (Nat.le_refl _) _) (by decide), hB20.made hL⟩
    · have k16 : vals 16 = .agg #[.int .i64 q.l0, .int .i64 q.h0] := hφ 16 (hd 16 (by decide))
      obtain ⟨b, kb, hb1, hbf, c0, c1, _⟩ := hB19.2 (hd 19 (by decide))
      obtain ⟨u0, cc0⟩ := Option.isSome_iff_exists.1 c0
      obtain ⟨u1, cc1⟩ := Option.isSome_iff_exists.1 c1
      refine wpAt_none rfl rfl ?_
      simp only [frOf, Act.put]
      go_wp2_with fail
      first | exact ⟨trivial, HX.setAll hN1 hN2 (Nat.le_refl _) hb1 [Value.int .i64 q.l0, .int .i64 q.h0] 0 hS, hB19.store (by decide), hB20.store (by decide)⟩ | exact ⟨HX.setAll hN1 hN2 (Nat.le_refl _) hb1 [Value.int .i64 q.l0, .int .i64 q.h0] 0 hS, hB19.store (by decide), hB20.store (by decide)⟩ | exact ⟨trivial, trivial, HX.setAll hN1 hN2 (Nat.le_refl _) hb1 [Value.int .i64 q.l0, .int .i64 q.h0] 0 hS, hB19.store (by decide), hB20.store (by decide)⟩
    · have k17 : vals 17 = .agg #[.int .i64 q.l1, .int .i64 q.h1] := hφ 17 (hd 17 (by decide))
      obtain ⟨b, kb, hb1, hbf, c0, c1, _⟩ := hB20.2 (hd 20 (by decide))
      obtain ⟨u0, cc0⟩ := Option.isSome_iff_exists.1 c0
      obtain ⟨u1, cc1⟩ := Option.isSome_iff_exists.1 c1
      refine wpAt_none rfl rfl ?_
      simp only [frOf, Act.put]
      go_wp2_with fail
      first | exact ⟨trivial, HX.setAll hN1 hN2 (Nat.le_refl _) hb1 [Value.int .i64 q.l1, .int .i64 q.h1] 0 hS, hB19.store (by decide), hB20.store (by decide)⟩ | exact ⟨HX.setAll hN1 hN2 (Nat.le_refl _) hb1 [Value.int .i64 q.l1, .int .i64 q.h1] 0 hS, hB19.store (by decide), hB20.store (by decide)⟩ | exact ⟨trivial, trivial, HX.setAll hN1 hN2 (Nat.le_refl _) hb1 [Value.int .i64 q.l1, .int .i64 q.h1] 0 hS, hB19.store (by decide), hB20.store (by decide)⟩
    · have k18 : vals 18 = .bool q.ok := hφ 18 (hd 18 (by decide))
      refine wpAt_of rfl rfl ?_
      simp only [frOf, Act.put]
      go_wp2_with fail
      first | exact ⟨trivial, rfl, hS, hB19.next (Below.refl _ _) (by decide), hB20.next (Below.refl _ _) (by decide)⟩ | exact ⟨rfl, hS, hB19.next (Below.refl _ _) (by decide), hB20.next (Below.refl _ _) (by decide)⟩ | exact ⟨trivial, trivial, rfl, hS, hB19.next (Below.refl _ _) (by decide), hB20.next (Below.refl _ _) (by decide)⟩
  · intro L vals W hall hφ hSS
    obtain ⟨hS, hB19, hB20⟩ := hSS
    have k0 : vals 0 = .pointer (some ⟨w.heap.size + 1, 4, none⟩) := hφ 0 (by decide)
    have k1 : vals 1 = .int .i64 r := hφ 1 (by decide)
    have k2 : vals 2 = .pointer (some ⟨w.heap.size + 1 + 1, 1, none⟩) := hφ 2 (by decide)
    have k3 : vals 3 = .slice (some ⟨sb, off, none⟩) 4 cap := hφ 3 (by decide)
    have k4 : vals 4 = .pointer (some ⟨w.heap.size + 1, 2, none⟩) := hφ 4 (by decide)
    have k5 : vals 5 = .int .i64 ai := hφ 5 (by decide)
    have k6 : vals 6 = .pointer (some ⟨sb, off + ai * 2, none⟩) := hφ 6 (by decide)
    have k7 : vals 7 = .agg #[.int .i64 (lo ai), .int .i64 (hi ai)] := hφ 7 (by decide)
    have k8 : vals 8 = .pointer (some ⟨w.heap.size + 1 + 1, 1, none⟩) := hφ 8 (by decide)
    have k9 : vals 9 = .slice (some ⟨sb, off, none⟩) 4 cap := hφ 9 (by decide)
    have k10 : vals 10 = .pointer (some ⟨w.heap.size + 1, 3, none⟩) := hφ 10 (by decide)
    have k11 : vals 11 = .int .i64 bi := hφ 11 (by decide)
    have k12 : vals 12 = .pointer (some ⟨sb, off + bi * 2, none⟩) := hφ 12 (by decide)
    have k13 : vals 13 = .agg #[.int .i64 (lo bi), .int .i64 (hi bi)] := hφ 13 (by decide)
    have k14 : vals 14 = .tuple #[.agg #[.int .i64 q.l0, .int .i64 q.h0], .agg #[.int .i64 q.l1, .int .i64 q.h1], .bool q.ok] := hφ 14 (by decide)
    have k15 : vals 15 = .tuple #[.agg #[.int .i64 q.l0, .int .i64 q.h0], .agg #[.int .i64 q.l1, .int .i64 q.h1], .bool q.ok] := hφ 15 (by decide)
    have k16 : vals 16 = .agg #[.int .i64 q.l0, .int .i64 q.h0] := hφ 16 (by decide)
    have k17 : vals 17 = .agg #[.int .i64 q.l1, .int .i64 q.h1] := hφ 17 (by decide)
    have k18 : vals 18 = .bool q.ok := hφ 18 (by decide)
    have k23 : vals 23 = .bool q.ok := hφ 23 (by decide)
    simp only [frOf, Act.put, List.setIfInBounds_toArray, List.set_cons_succ, List.set_cons_zero, k0, k1, k2, k3, k4, k5, k6, k7, k8, k9, k10, k11, k12, k13, k14, k15, k16, k17, k18, k23]
    clear k0 k1 k2 k3 k4 k5 k6 k7 k8 k9 k10 k11 k12 k13 k14 k15 k16 k17 k18 k23 hφ
    have H := hS.1
    clear hall
    go_wp2_with fail
    go_ret
    exact ⟨ret_bool (by rw [← hq.out]; simp [failB]), H.below⟩
set_option maxRecDepth 10000 in
set_option maxHeartbeats 8000000 in
theorem absFailsS_n (pa : Option Addr) (pb po m pc : Nat) (P : Nat → Proc) (S : Nat → Spot) (d : Int) (ai bi : Nat) (r l h t : Int) (sb off cap : Nat) (lo hi : Nat → Int) (c u : Int) (o : Int) (w : World) (hm : m ≤ 1048576) (hN : ∀ i, i < m → (P i).n ≤ 1048576) (hP : ProcsAt pa pb po m P S w) (hC : BndsAt (some ⟨sb, off, none⟩) sb off 4 lo hi w) (hai : ai < 4) (hbi : bi < 4) (g : Hid (canStep P m o d ai bi r l h t true 4 lo hi c u = true)) (n4 : o ≠ 4) (n6 : o ≠ 6) (n7 : o ≠ 7) (n10 : o ≠ 10) (n11 : o ≠ 11) :
    Calls Try.prog 34 #[.agg #[.slice pa m pc], .agg #[.int .i64 o, .int .i64 d, .int .i64 (ai : Int), .int .i64 (bi : Int), .int .i64 r, .int .i64 l, .int .i64 h, .int .i64 t], .agg #[.bool true, .slice (some ⟨sb, off, none⟩) 4 cap, .int .i64 c, .int .i64 u]] w fun e w' => e = .returned (.bool (failB o r ai bi t.toNat lo hi P)) ∧ Below w.heap.size w w' := by
  have H : HeldL w [(w.heap.size + 1 + 1, [Value.bool true, .slice (some ⟨sb, off, none⟩) 4 cap, .int .i64 c, .int .i64 u]), (w.heap.size + 1, [Value.int .i64 o, .int .i64 d, .int .i64 (ai : Int), .int .i64 (bi : Int), .int .i64 r, .int .i64 l, .int .i64 h, .int .i64 t]), (w.heap.size, [Value.slice pa m pc])] (((w.alloc (.cells #[.slice pa m pc] 35)).alloc (.cells #[.int .i64 o, .int .i64 d, .int .i64 (ai : Int), .int .i64 (bi : Int), .int .i64 r, .int .i64 l, .int .i64 h, .int .i64 t] 72)).alloc (.cells #[.bool true, .slice (some ⟨sb, off, none⟩) 4 cap, .int .i64 c, .int .i64 u] 77)) := by
    have e1 : w.heap.size + 1 = (w.alloc (.cells #[.slice pa m pc] 35)).heap.size := by simp
    have e2 : w.heap.size + 1 + 1 = ((w.alloc (.cells #[.slice pa m pc] 35)).alloc (.cells #[.int .i64 o, .int .i64 d, .int .i64 (ai : Int), .int .i64 (bi : Int), .int .i64 r, .int .i64 l, .int .i64 h, .int .i64 t] 72)).heap.size := by simp
    rw [e2, e1]
    exact HeldL.newL (vs := [Value.bool true, .slice (some ⟨sb, off, none⟩) 4 cap, .int .i64 c, .int .i64 u]) (HeldL.newL (vs := [Value.int .i64 o, .int .i64 d, .int .i64 (ai : Int), .int .i64 (bi : Int), .int .i64 r, .int .i64 l, .int .i64 h, .int .i64 t]) (HeldL.newL (vs := [Value.slice pa m pc]) (HeldL.nil w)))
  obtain ⟨Lb, hLb⟩ : ∃ L, L = [(w.heap.size + 1 + 1, [Value.bool true, .slice (some ⟨sb, off, none⟩) 4 cap, .int .i64 c, .int .i64 u]), (w.heap.size + 1, [Value.int .i64 o, .int .i64 d, .int .i64 (ai : Int), .int .i64 (bi : Int), .int .i64 r, .int .i64 l, .int .i64 h, .int .i64 t]), (w.heap.size, [Value.slice pa m pc])] := ⟨_, rfl⟩
  have mP : (w.heap.size, [Value.slice pa m pc]) ∈ Lb := by rw [hLb]; simp
  have mI : (w.heap.size + 1, [Value.int .i64 o, .int .i64 d, .int .i64 (ai : Int), .int .i64 (bi : Int), .int .i64 r, .int .i64 l, .int .i64 h, .int .i64 t]) ∈ Lb := by rw [hLb]; simp
  have mS : (w.heap.size + 1 + 1, [Value.bool true, .slice (some ⟨sb, off, none⟩) 4 cap, .int .i64 c, .int .i64 u]) ∈ Lb := by rw [hLb]; simp
  rw [← hLb] at H
  clear hLb
  have I := hC.next H.below
  have Q := hP.next H.below
  clear hC hP
  go_enter Try.func34, Try.ntmps34
  go_wp2_with fail
  refine (fitS _ _ _ _ _ _ _ _ _ _ _ _ _ _ _ _ _ _ _ _ _ _ _ _ _ _ hm hN (by omega) Q I).mono ?_
  rintro e w1 ⟨rfl, hb⟩
  rw [g.out]
  replace H := H.next hb
  replace I := I.next hb
  replace Q := Q.next hb
  clear hb
  clear hm hN
  have c0 := H.cell mI (i := 0) rfl
  dsimp only at c0
  have t1ai : ((ai : Int)).toNat = ai := by omega
  have t2ai : (0 : Int) ≤ (ai : Int) := by omega
  have t3ai : (ai : Int) < 4 := by omega
  have t1bi : ((bi : Int)).toNat = bi := by omega
  have t2bi : (0 : Int) ≤ (bi : Int) := by omega
  have t3bi : (bi : Int) < 4 := by omega
  have b4 : (o == 4) = false := by simpa using n4
  have b6 : (o == 6) = false := by simpa using n6
  have b7 : (o == 7) = false := by simpa using n7
  have b10 : (o == 10) = false := by simpa using n10
  have b11 : (o == 11) = false := by simpa using n11
  go_wp2_with fail
  go_ret
  exact ⟨ret_bool (by simp [failB, n4, n6, n7, n10, n11]), H.below⟩
set_option maxRecDepth 10000 in
set_option maxHeartbeats 4000000 in
theorem absFailsS (pa : Option Addr) (pb po m pc : Nat) (P : Nat → Proc) (S : Nat → Spot) (o d a b r l h t : Int) (on : Bool) (sa : Option Addr) (sb off n cap : Nat) (lo hi : Nat → Int) (c u : Int) (w : World) (hm : m ≤ 1048576) (hN : ∀ i, i < m → (P i).n ≤ 1048576) (hn : n ≤ 1048576) (hP : ProcsAt pa pb po m P S w) (hC : BndsAt sa sb off n lo hi w) :
    Calls Try.prog 34 #[.agg #[.slice pa m pc], .agg #[.int .i64 o, .int .i64 d, .int .i64 a, .int .i64 b, .int .i64 r, .int .i64 l, .int .i64 h, .int .i64 t], .agg #[.bool on, .slice sa n cap, .int .i64 c, .int .i64 u]] w fun e w' => e = .returned (.bool (absFails P m o d a b r l h t on n lo hi c u)) ∧ Below w.heap.size w w' := by
  cases g : canStep P m o d a b r l h t on n lo hi c u
  · have H : HeldL w [(w.heap.size + 1 + 1, [Value.bool on, .slice sa n cap, .int .i64 c, .int .i64 u]), (w.heap.size + 1, [Value.int .i64 o, .int .i64 d, .int .i64 a, .int .i64 b, .int .i64 r, .int .i64 l, .int .i64 h, .int .i64 t]), (w.heap.size, [Value.slice pa m pc])] (((w.alloc (.cells #[.slice pa m pc] 35)).alloc (.cells #[.int .i64 o, .int .i64 d, .int .i64 a, .int .i64 b, .int .i64 r, .int .i64 l, .int .i64 h, .int .i64 t] 72)).alloc (.cells #[.bool on, .slice sa n cap, .int .i64 c, .int .i64 u] 77)) := by
      have e1 : w.heap.size + 1 = (w.alloc (.cells #[.slice pa m pc] 35)).heap.size := by simp
      have e2 : w.heap.size + 1 + 1 = ((w.alloc (.cells #[.slice pa m pc] 35)).alloc (.cells #[.int .i64 o, .int .i64 d, .int .i64 a, .int .i64 b, .int .i64 r, .int .i64 l, .int .i64 h, .int .i64 t] 72)).heap.size := by simp
      rw [e2, e1]
      exact HeldL.newL (vs := [Value.bool on, .slice sa n cap, .int .i64 c, .int .i64 u]) (HeldL.newL (vs := [Value.int .i64 o, .int .i64 d, .int .i64 a, .int .i64 b, .int .i64 r, .int .i64 l, .int .i64 h, .int .i64 t]) (HeldL.newL (vs := [Value.slice pa m pc]) (HeldL.nil w)))
    obtain ⟨Lb, hLb⟩ : ∃ L, L = [(w.heap.size + 1 + 1, [Value.bool on, .slice sa n cap, .int .i64 c, .int .i64 u]), (w.heap.size + 1, [Value.int .i64 o, .int .i64 d, .int .i64 a, .int .i64 b, .int .i64 r, .int .i64 l, .int .i64 h, .int .i64 t]), (w.heap.size, [Value.slice pa m pc])] := ⟨_, rfl⟩
    have mP : (w.heap.size, [Value.slice pa m pc]) ∈ Lb := by rw [hLb]; simp
    have mI : (w.heap.size + 1, [Value.int .i64 o, .int .i64 d, .int .i64 a, .int .i64 b, .int .i64 r, .int .i64 l, .int .i64 h, .int .i64 t]) ∈ Lb := by rw [hLb]; simp
    have mS : (w.heap.size + 1 + 1, [Value.bool on, .slice sa n cap, .int .i64 c, .int .i64 u]) ∈ Lb := by rw [hLb]; simp
    rw [← hLb] at H
    clear hLb
    have I := hC.next H.below
    have Q := hP.next H.below
    clear hC hP
    go_enter Try.func34, Try.ntmps34
    go_wp2_with fail
    refine (fitS _ _ _ _ _ _ _ _ _ _ _ _ _ _ _ _ _ _ _ _ _ _ _ _ _ _ hm hN hn Q I).mono ?_
    rintro e w1 ⟨rfl, hb⟩
    rw [g]
    replace H := H.next hb
    go_wp2_with fail
    go_ret
    exact ⟨ret_bool (by simp [absFails, g]), H.below⟩
  · have hF : absFails P m o d a b r l h t on n lo hi c u = failB o r a.toNat b.toNat t.toNat lo hi P := by simp [absFails, g]
    rw [hF]
    obtain ⟨rfl, rfl, ⟨ai, hai, rfl⟩, ⟨bi, hbi, rfl⟩, _, ht, _, _⟩ := canStep_at g
    have es := hC.at_ (by omega)
    subst es
    simp only [Int.toNat_natCast]
    clear hF
    by_cases h4 : o = 4
    · subst h4; exact absFailsS_4 _ _ _ _ _ _ _ _ _ _ _ _ _ _ _ _ _ _ _ _ _ _ hm hN hP hC hai hbi g
    by_cases h6 : o = 6
    · subst h6; exact absFailsS_6 _ _ _ _ _ _ _ _ _ _ _ _ _ _ _ _ _ _ _ _ _ _ hm hN hP hC hai hbi g
    by_cases h7 : o = 7
    · subst h7; exact absFailsS_7 _ _ _ _ _ _ _ _ _ _ _ _ _ _ _ _ _ _ _ _ _ _ hm hN hP hC hai hbi g
    by_cases h10 : o = 10
    · subst h10
      obtain ⟨ti, hti, rfl⟩ := ht rfl
      have ep := hP.at_ (by omega)
      subst ep
      simp only [Int.toNat_natCast]
      exact absFailsS_10 _ _ _ _ _ _ _ _ _ _ _ _ _ _ _ _ _ _ _ _ _ hm hN hP hC hai hbi hti g
    by_cases h11 : o = 11
    · subst h11; exact absFailsS_11 _ _ _ _ _ _ _ _ _ _ _ _ _ _ _ _ _ _ _ _ _ _ hm hN hP hC hai hbi g
    exact absFailsS_n _ _ _ _ _ _ _ _ _ _ _ _ _ _ _ _ _ _ _ _ _ _ _ hm hN hP hC hai hbi g h4 h6 h7 h10 h11
end Go.Proofs.Ytdpkbbbfnmneiaa
