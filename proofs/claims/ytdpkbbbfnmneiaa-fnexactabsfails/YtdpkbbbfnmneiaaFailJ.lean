/- AbsFails, the program's, whole. -/
import Derived.Test.YtdpkbbbfnmneiaaFailK
namespace Go.Proofs.Ytdpkbbbfnmneiaa
open Go.ChangeShapes Go.WideShapes Go.ChangeAt Go.RowKit
set_option linter.unusedVariables false

set_option maxRecDepth 10000 in
set_option maxHeartbeats 8000000 in
theorem absFailsI_f (pa : Option Addr) (pb po m pc : Nat) (P : Nat → Proc) (S : Nat → Spot) (o d a b r l h t : Int) (on : Bool) (sa : Option Addr) (sb off n cap : Nat) (lo hi : Nat → Int) (c u : Int) (w : World) (hm : m ≤ 1048576) (hN : ∀ i, i < m → (P i).n ≤ 1048576) (hn : n ≤ 1048576) (hP : ProcsAt pa pb po m P S w) (hC : BndsAt sa sb off n lo hi w) (g : Hid (canStep P m o d a b r l h t on n lo hi c u = false)) :
    Calls Try.prog 37 #[.agg #[.slice pa m pc], .agg #[.int .i64 o, .int .i64 d, .int .i64 a, .int .i64 b, .int .i64 r, .int .i64 l, .int .i64 h, .int .i64 t], .agg #[.bool on, .slice sa n cap, .int .i64 c, .int .i64 u]] w fun e w' => e = .returned (.bool (false)) ∧ Below w.heap.size w w' := by
  have H : HeldL w [(w.heap.size + 1 + 1, [Value.bool on, .slice sa n cap, .int .i64 c, .int .i64 u]), (w.heap.size + 1, [Value.int .i64 o, .int .i64 d, .int .i64 a, .int .i64 b, .int .i64 r, .int .i64 l, .int .i64 h, .int .i64 t]), (w.heap.size, [Value.slice pa m pc])] (((w.alloc (.cells #[.slice pa m pc] 35)).alloc (.cells #[.int .i64 o, .int .i64 d, .int .i64 a, .int .i64 b, .int .i64 r, .int .i64 l, .int .i64 h, .int .i64 t] 72)).alloc (.cells #[.bool on, .slice sa n cap, .int .i64 c, .int .i64 u] 77)) := by
    have e1 : w.heap.size + 1 = (w.alloc (.cells #[.slice pa m pc] 35)).heap.size := by simp
    have e2 : w.heap.size + 1 + 1 = ((w.alloc (.cells #[.slice pa m pc] 35)).alloc (.cells #[.int .i64 o, .int .i64 d, .int .i64 a, .int .i64 b, .int .i64 r, .int .i64 l, .int .i64 h, .int .i64 t] 72)).heap.size := by simp
    rw [e2, e1]
    exact HeldL.newL (vs := [Value.bool on, .slice sa n cap, .int .i64 c, .int .i64 u]) (HeldL.newL (vs := [Value.int .i64 o, .int .i64 d, .int .i64 a, .int .i64 b, .int .i64 r, .int .i64 l, .int .i64 h, .int .i64 t]) (HeldL.newL (vs := [Value.slice pa m pc]) (HeldL.nil w)))
  obtain ⟨Lb, hLb⟩ : ∃ L, L = [(w.heap.size + 1 + 1, [Value.bool on, .slice sa n cap, .int .i64 c, .int .i64 u]), (w.heap.size + 1, [Value.int .i64 o, .int .i64 d, .int .i64 a, .int .i64 b, .int .i64 r, .int .i64 l, .int .i64 h, .int .i64 t]), (w.heap.size, [Value.slice pa m pc])] := ⟨_, rfl⟩
  have mP : (w.heap.size, [Value.slice pa m pc]) ∈ Lb := by rw [hLb]; simp
  have mI : (w.heap.size + 1, [Value.int .i64 o, .int .i64 d, .int .i64 a, .int .i64 b, .int .i64 r, .int .i64 l, .int .i64 h, .int .i64 t]) ∈ Lb := by rw [hLb]; simp
  have mS : (w.heap.size + 1 + 1, [Value.bool on, .slice sa n cap, .int .i64 c, .int .i64 u]) ∈ Lb := by rw [hLb]; simp
  rw [← hLb] at H
  clear hLb
  obtain ⟨V, hV⟩ : ∃ V, V = (((w.alloc (.cells #[.slice pa m pc] 35)).alloc (.cells #[.int .i64 o, .int .i64 d, .int .i64 a, .int .i64 b, .int .i64 r, .int .i64 l, .int .i64 h, .int .i64 t] 72)).alloc (.cells #[.bool on, .slice sa n cap, .int .i64 c, .int .i64 u] 77)) := ⟨_, rfl⟩
  rw [← hV] at H
  have hS0 : HX w V Lb V.drew := ⟨H.drew, (Below.refl _ V).drew⟩
  clear H
  go_enter Try.func37, Try.ntmps37
  go_wp2_with fail
  rw [← hV]
  clear hV
  refine region_inv3 [(0, 7), (1, 8), (2, 9), (3, 10), (4, 11), (5, 12), (6, 13), (7, 14), (8, 15), (9, 16), (10, 17), (11, 18), (12, 6)]
    (fun j v _ => match j with
      | 0 => Is (.agg #[.slice pa m pc]) v
      | 1 => Is (.agg #[.int .i64 o, .int .i64 d, .int .i64 a, .int .i64 b, .int .i64 r, .int .i64 l, .int .i64 h, .int .i64 t]) v
      | 2 => Is (.agg #[.bool on, .slice sa n cap, .int .i64 c, .int .i64 u]) v
      | 3 => Is (.bool false) v
      | 4 => Is (.bool false) v
      | 5 => Is (undef) v
      | 6 => Is (undef) v
      | 7 => Is (undef) v
      | 8 => Is (undef) v
      | 9 => Is (undef) v
      | 10 => Is (undef) v
      | 11 => Is (.bool false) v
      | 12 => Is (.bool false) v
      | _ => True)
    (fun _ W => HX w V Lb W) TT
    (by kernel_rfl) (by kernel_rfl) (by kernel_rfl) (by kernel_rfl) (by kernel_rfl) rfl hS0 (fun i j v W W' _ h _ => h) ?_ ?_
  · intro i L vals W hi' hφ hS hL hd
    have hi2 : i < 13 := hi'
    clear hi'
    rcases (show i = 0 ∨ i = 1 ∨ i = 2 ∨ i = 3 ∨ i = 4 ∨ i = 5 ∨ i = 6 ∨ i = 7 ∨ i = 8 ∨ i = 9 ∨ i = 10 ∨ i = 11 ∨ i = 12 by omega) with rfl | rfl | rfl | rfl | rfl | rfl | rfl | rfl | rfl | rfl | rfl | rfl | rfl
    · have y0 := hS.cell mP (i := 0) rfl
      dsimp only at y0
      refine wpAt_of rfl rfl ?_
      simp only [frOf, Act.put]
      go_wp2_with fail
      first | exact ⟨trivial, rfl, trivial, hS⟩ | exact ⟨rfl, trivial, hS⟩ | exact ⟨trivial, rfl, trivial⟩ | exact ⟨rfl, trivial⟩ | exact rfl
    · have x0 := hS.cell mI (i := 0) rfl
      have x1 := hS.cell mI (i := 1) rfl
      have x2 := hS.cell mI (i := 2) rfl
      have x3 := hS.cell mI (i := 3) rfl
      have x4 := hS.cell mI (i := 4) rfl
      have x5 := hS.cell mI (i := 5) rfl
      have x6 := hS.cell mI (i := 6) rfl
      have x7 := hS.cell mI (i := 7) rfl
      dsimp only at x0 x1 x2 x3 x4 x5 x6 x7
      refine wpAt_of rfl rfl ?_
      simp only [frOf, Act.put]
      go_wp2_with fail
      first | exact ⟨trivial, rfl, trivial, hS⟩ | exact ⟨rfl, trivial, hS⟩ | exact ⟨trivial, rfl, trivial⟩ | exact ⟨rfl, trivial⟩ | exact rfl
    · have c0 := hS.cell mS (i := 0) rfl
      have c1 := hS.cell mS (i := 1) rfl
      have c2 := hS.cell mS (i := 2) rfl
      have c3 := hS.cell mS (i := 3) rfl
      dsimp only at c0 c1 c2 c3
      refine wpAt_of rfl rfl ?_
      simp only [frOf, Act.put]
      go_wp2_with fail
      first | exact ⟨trivial, rfl, trivial, hS⟩ | exact ⟨rfl, trivial, hS⟩ | exact ⟨trivial, rfl, trivial⟩ | exact ⟨rfl, trivial⟩ | exact rfl
    · have k0 : vals 0 = .agg #[.slice pa m pc] := hφ 0 (hd 0 (by decide))
      have k1 : vals 1 = .agg #[.int .i64 o, .int .i64 d, .int .i64 a, .int .i64 b, .int .i64 r, .int .i64 l, .int .i64 h, .int .i64 t] := hφ 1 (hd 1 (by decide))
      have k2 : vals 2 = .agg #[.bool on, .slice sa n cap, .int .i64 c, .int .i64 u] := hφ 2 (hd 2 (by decide))
      refine wpAt_of rfl rfl ?_
      simp only [frOf, Act.put]
      go_wp2_with fail
      refine (canI _ _ _ _ _ _ _ _ _ _ _ _ _ _ _ _ _ _ _ _ _ _ _ _ _ _ hm hN hn (hP.next hS.below) (hC.next hS.below)).mono ?_
      rintro e W' ⟨rfl, hb⟩
      rw [g.out]
      go_wp2_with fail
      first | exact ⟨trivial, rfl, trivial, HX.next hb hS⟩ | exact ⟨rfl, trivial, HX.next hb hS⟩ | exact ⟨trivial, rfl, trivial⟩ | exact ⟨rfl, trivial⟩ | exact rfl
    · have k3 : vals 3 = .bool false := hφ 3 (hd 3 (by decide))
      refine wpAt_of rfl rfl ?_
      simp only [frOf, Act.put]
      go_wp2_with fail
      first | exact ⟨trivial, rfl, trivial, hS⟩ | exact ⟨rfl, trivial, hS⟩ | exact ⟨trivial, rfl, trivial⟩ | exact ⟨rfl, trivial⟩ | exact rfl
    · have k4 : vals 4 = .bool false := hφ 4 (hd 4 (by decide))
      simp only [wpAt, List.getElem?_toArray, List.getElem?_cons_succ, List.getElem?_cons_zero, slotOf, frOf, Act.put]
      go_wp2_with fail
      first | exact ⟨trivial, rfl, trivial, hS⟩ | exact ⟨rfl, trivial, hS⟩ | exact ⟨trivial, rfl, trivial⟩ | exact ⟨rfl, trivial⟩ | exact rfl
    · have k4 : vals 4 = .bool false := hφ 4 (hd 4 (by decide))
      have k5 : vals 5 = undef := hφ 5 (hd 5 (by decide))
      simp only [wpAt, List.getElem?_toArray, List.getElem?_cons_succ, List.getElem?_cons_zero, slotOf, frOf, Act.put]
      go_wp2_with fail
      first | exact ⟨trivial, rfl, trivial, hS⟩ | exact ⟨rfl, trivial, hS⟩ | exact ⟨trivial, rfl, trivial⟩ | exact ⟨rfl, trivial⟩ | exact rfl
    · have k4 : vals 4 = .bool false := hφ 4 (hd 4 (by decide))
      simp only [wpAt, List.getElem?_toArray, List.getElem?_cons_succ, List.getElem?_cons_zero, slotOf, frOf, Act.put]
      go_wp2_with fail
      first | exact ⟨trivial, rfl, trivial, hS⟩ | exact ⟨rfl, trivial, hS⟩ | exact ⟨trivial, rfl, trivial⟩ | exact ⟨rfl, trivial⟩ | exact rfl
    · have k4 : vals 4 = .bool false := hφ 4 (hd 4 (by decide))
      simp only [wpAt, List.getElem?_toArray, List.getElem?_cons_succ, List.getElem?_cons_zero, slotOf, frOf, Act.put]
      go_wp2_with fail
      first | exact ⟨trivial, rfl, trivial, hS⟩ | exact ⟨rfl, trivial, hS⟩ | exact ⟨trivial, rfl, trivial⟩ | exact ⟨rfl, trivial⟩ | exact rfl
    · have k4 : vals 4 = .bool false := hφ 4 (hd 4 (by decide))
      have k8 : vals 8 = undef := hφ 8 (hd 8 (by decide))
      simp only [wpAt, List.getElem?_toArray, List.getElem?_cons_succ, List.getElem?_cons_zero, slotOf, frOf, Act.put]
      go_wp2_with fail
      first | exact ⟨trivial, rfl, trivial, hS⟩ | exact ⟨rfl, trivial, hS⟩ | exact ⟨trivial, rfl, trivial⟩ | exact ⟨rfl, trivial⟩ | exact rfl
    · have k4 : vals 4 = .bool false := hφ 4 (hd 4 (by decide))
      have k6 : vals 6 = undef := hφ 6 (hd 6 (by decide))
      have k7 : vals 7 = undef := hφ 7 (hd 7 (by decide))
      have k9 : vals 9 = undef := hφ 9 (hd 9 (by decide))
      simp only [wpAt, List.getElem?_toArray, List.getElem?_cons_succ, List.getElem?_cons_zero, slotOf, frOf, Act.put]
      go_wp2_with fail
      first | exact ⟨trivial, rfl, trivial, hS⟩ | exact ⟨rfl, trivial, hS⟩ | exact ⟨trivial, rfl, trivial⟩ | exact ⟨rfl, trivial⟩ | exact rfl
    · have k4 : vals 4 = .bool false := hφ 4 (hd 4 (by decide))
      have k10 : vals 10 = undef := hφ 10 (hd 10 (by decide))
      refine wpAt_of rfl rfl ?_
      simp only [frOf, Act.put]
      go_wp2_with fail
      first | exact ⟨trivial, rfl, trivial, hS⟩ | exact ⟨rfl, trivial, hS⟩ | exact ⟨trivial, rfl, trivial⟩ | exact ⟨rfl, trivial⟩ | exact rfl
    · have k11 : vals 11 = .bool false := hφ 11 (hd 11 (by decide))
      refine wpAt_of rfl rfl ?_
      simp only [frOf, Act.put]
      go_wp2_with fail
      first | exact ⟨trivial, rfl, trivial, hS⟩ | exact ⟨rfl, trivial, hS⟩ | exact ⟨trivial, rfl, trivial⟩ | exact ⟨rfl, trivial⟩ | exact rfl
  · intro L vals W hall hφ hS
    have k0 : vals 0 = .agg #[.slice pa m pc] := hφ 0 (by decide)
    have k1 : vals 1 = .agg #[.int .i64 o, .int .i64 d, .int .i64 a, .int .i64 b, .int .i64 r, .int .i64 l, .int .i64 h, .int .i64 t] := hφ 1 (by decide)
    have k2 : vals 2 = .agg #[.bool on, .slice sa n cap, .int .i64 c, .int .i64 u] := hφ 2 (by decide)
    have k3 : vals 3 = .bool false := hφ 3 (by decide)
    have k4 : vals 4 = .bool false := hφ 4 (by decide)
    have k5 : vals 5 = undef := hφ 5 (by decide)
    have k6 : vals 6 = undef := hφ 6 (by decide)
    have k7 : vals 7 = undef := hφ 7 (by decide)
    have k8 : vals 8 = undef := hφ 8 (by decide)
    have k9 : vals 9 = undef := hφ 9 (by decide)
    have k10 : vals 10 = undef := hφ 10 (by decide)
    have k11 : vals 11 = .bool false := hφ 11 (by decide)
    have k12 : vals 12 = .bool false := hφ 12 (by decide)
    simp only [frOf, Act.put, List.setIfInBounds_toArray, List.set_cons_succ, List.set_cons_zero, k0, k1, k2, k3, k4, k5, k6, k7, k8, k9, k10, k11, k12]
    clear k0 k1 k2 k3 k4 k5 k6 k7 k8 k9 k10 k11 k12 hall hφ hS0
    have H := hS.1
    go_wp2_with fail
    go_ret
    exact ⟨rfl, H.below⟩
set_option maxRecDepth 10000 in
set_option maxHeartbeats 8000000 in
theorem absFailsI_1 (pa : Option Addr) (pb po m pc : Nat) (P : Nat → Proc) (S : Nat → Spot) (d : Int) (ai bi : Nat) (r l h t : Int) (sb off cap : Nat) (lo hi : Nat → Int) (c u : Int) (w : World) (hm : m ≤ 1048576) (hN : ∀ i, i < m → (P i).n ≤ 1048576) (hP : ProcsAt pa pb po m P S w) (hC : BndsAt (some ⟨sb, off, none⟩) sb off 4 lo hi w) (hai : ai < 4) (hbi : bi < 4) (g : Hid (canStep P m 1 d ai bi r l h t true 4 lo hi c u = true)) :
    Calls Try.prog 37 #[.agg #[.slice pa m pc], .agg #[.int .i64 1, .int .i64 d, .int .i64 (ai : Int), .int .i64 (bi : Int), .int .i64 r, .int .i64 l, .int .i64 h, .int .i64 t], .agg #[.bool true, .slice (some ⟨sb, off, none⟩) 4 cap, .int .i64 c, .int .i64 u]] w fun e w' => e = .returned (.bool (failB 1 r ai bi t.toNat lo hi P)) ∧ Below w.heap.size w w' := by
  obtain ⟨q, hq'⟩ : ∃ q, failB 1 r ai bi t.toNat lo hi P = q := ⟨_, rfl⟩
  have hq : Hid (failB 1 r ai bi t.toNat lo hi P = q) := hq'
  clear hq'
  rw [hq.out]
  have hv : Hid ((decide ((1 : Int) = 4) && itvHas (arL true lo c bi) (arL true hi u bi) 0) = q) := (by rw [← hq.out]; simp [failB] : _ = _)
  have H : HeldL w [(w.heap.size + 1 + 1, [Value.bool true, .slice (some ⟨sb, off, none⟩) 4 cap, .int .i64 c, .int .i64 u]), (w.heap.size + 1, [Value.int .i64 1, .int .i64 d, .int .i64 (ai : Int), .int .i64 (bi : Int), .int .i64 r, .int .i64 l, .int .i64 h, .int .i64 t]), (w.heap.size, [Value.slice pa m pc])] (((w.alloc (.cells #[.slice pa m pc] 35)).alloc (.cells #[.int .i64 1, .int .i64 d, .int .i64 (ai : Int), .int .i64 (bi : Int), .int .i64 r, .int .i64 l, .int .i64 h, .int .i64 t] 72)).alloc (.cells #[.bool true, .slice (some ⟨sb, off, none⟩) 4 cap, .int .i64 c, .int .i64 u] 77)) := by
    have e1 : w.heap.size + 1 = (w.alloc (.cells #[.slice pa m pc] 35)).heap.size := by simp
    have e2 : w.heap.size + 1 + 1 = ((w.alloc (.cells #[.slice pa m pc] 35)).alloc (.cells #[.int .i64 1, .int .i64 d, .int .i64 (ai : Int), .int .i64 (bi : Int), .int .i64 r, .int .i64 l, .int .i64 h, .int .i64 t] 72)).heap.size := by simp
    rw [e2, e1]
    exact HeldL.newL (vs := [Value.bool true, .slice (some ⟨sb, off, none⟩) 4 cap, .int .i64 c, .int .i64 u]) (HeldL.newL (vs := [Value.int .i64 1, .int .i64 d, .int .i64 (ai : Int), .int .i64 (bi : Int), .int .i64 r, .int .i64 l, .int .i64 h, .int .i64 t]) (HeldL.newL (vs := [Value.slice pa m pc]) (HeldL.nil w)))
  obtain ⟨Lb, hLb⟩ : ∃ L, L = [(w.heap.size + 1 + 1, [Value.bool true, .slice (some ⟨sb, off, none⟩) 4 cap, .int .i64 c, .int .i64 u]), (w.heap.size + 1, [Value.int .i64 1, .int .i64 d, .int .i64 (ai : Int), .int .i64 (bi : Int), .int .i64 r, .int .i64 l, .int .i64 h, .int .i64 t]), (w.heap.size, [Value.slice pa m pc])] := ⟨_, rfl⟩
  have mP : (w.heap.size, [Value.slice pa m pc]) ∈ Lb := by rw [hLb]; simp
  have mI : (w.heap.size + 1, [Value.int .i64 1, .int .i64 d, .int .i64 (ai : Int), .int .i64 (bi : Int), .int .i64 r, .int .i64 l, .int .i64 h, .int .i64 t]) ∈ Lb := by rw [hLb]; simp
  have mS : (w.heap.size + 1 + 1, [Value.bool true, .slice (some ⟨sb, off, none⟩) 4 cap, .int .i64 c, .int .i64 u]) ∈ Lb := by rw [hLb]; simp
  rw [← hLb] at H
  clear hLb
  obtain ⟨V, hV⟩ : ∃ V, V = (((w.alloc (.cells #[.slice pa m pc] 35)).alloc (.cells #[.int .i64 1, .int .i64 d, .int .i64 (ai : Int), .int .i64 (bi : Int), .int .i64 r, .int .i64 l, .int .i64 h, .int .i64 t] 72)).alloc (.cells #[.bool true, .slice (some ⟨sb, off, none⟩) 4 cap, .int .i64 c, .int .i64 u] 77)) := ⟨_, rfl⟩
  rw [← hV] at H
  have hS0 : HX w V Lb V.drew := ⟨H.drew, (Below.refl _ V).drew⟩
  clear H
  go_enter Try.func37, Try.ntmps37
  go_wp2_with fail
  rw [← hV]
  clear hV
  refine region_inv3 [(0, 7), (1, 8), (2, 9), (3, 10), (4, 11), (5, 12), (6, 13), (7, 14), (8, 15), (9, 16), (10, 17), (11, 18), (12, 6)]
    (fun j v _ => match j with
      | 0 => Is (.agg #[.slice pa m pc]) v
      | 1 => Is (.agg #[.int .i64 1, .int .i64 d, .int .i64 (ai : Int), .int .i64 (bi : Int), .int .i64 r, .int .i64 l, .int .i64 h, .int .i64 t]) v
      | 2 => Is (.agg #[.bool true, .slice (some ⟨sb, off, none⟩) 4 cap, .int .i64 c, .int .i64 u]) v
      | 3 => Is (.bool true) v
      | 4 => Is (.bool true) v
      | 5 => Is (.agg #[.bool true, .slice (some ⟨sb, off, none⟩) 4 cap, .int .i64 c, .int .i64 u]) v
      | 6 => Is (.agg #[.bool true, .int .i64 (lo 0), .int .i64 (hi 0), .int .i64 (lo 1), .int .i64 (hi 1), .int .i64 (lo 2), .int .i64 (hi 2), .int .i64 (lo 3), .int .i64 (hi 3), .int .i64 c, .int .i64 u]) v
      | 7 => Is (.agg #[.slice pa m pc]) v
      | 8 => Is (.agg #[.int .i64 1, .int .i64 d, .int .i64 (ai : Int), .int .i64 (bi : Int), .int .i64 r, .int .i64 l, .int .i64 h, .int .i64 t]) v
      | 9 => Is (.iface 160 (.agg #[.int .i64 1, .int .i64 d, .int .i64 (ai : Int), .int .i64 (bi : Int)])) v
      | 10 => Is (.bool q) v
      | 11 => Is (.bool q) v
      | 12 => Is (.bool q) v
      | _ => True)
    (fun _ W => HX w V Lb W) TT
    (by kernel_rfl) (by kernel_rfl) (by kernel_rfl) (by kernel_rfl) (by kernel_rfl) rfl hS0 (fun i j v W W' _ h _ => h) ?_ ?_
  · intro i L vals W hi' hφ hS hL hd
    have hi2 : i < 13 := hi'
    clear hi'
    rcases (show i = 0 ∨ i = 1 ∨ i = 2 ∨ i = 3 ∨ i = 4 ∨ i = 5 ∨ i = 6 ∨ i = 7 ∨ i = 8 ∨ i = 9 ∨ i = 10 ∨ i = 11 ∨ i = 12 by omega) with rfl | rfl | rfl | rfl | rfl | rfl | rfl | rfl | rfl | rfl | rfl | rfl | rfl
    · have y0 := hS.cell mP (i := 0) rfl
      dsimp only at y0
      refine wpAt_of rfl rfl ?_
      simp only [frOf, Act.put]
      go_wp2_with fail
      first | exact ⟨trivial, rfl, trivial, hS⟩ | exact ⟨rfl, trivial, hS⟩ | exact ⟨trivial, rfl, trivial⟩ | exact ⟨rfl, trivial⟩ | exact rfl
    · have x0 := hS.cell mI (i := 0) rfl
      have x1 := hS.cell mI (i := 1) rfl
      have x2 := hS.cell mI (i := 2) rfl
      have x3 := hS.cell mI (i := 3) rfl
      have x4 := hS.cell mI (i := 4) rfl
      have x5 := hS.cell mI (i := 5) rfl
      have x6 := hS.cell mI (i := 6) rfl
      have x7 := hS.cell mI (i := 7) rfl
      dsimp only at x0 x1 x2 x3 x4 x5 x6 x7
      refine wpAt_of rfl rfl ?_
      simp only [frOf, Act.put]
      go_wp2_with fail
      first | exact ⟨trivial, rfl, trivial, hS⟩ | exact ⟨rfl, trivial, hS⟩ | exact ⟨trivial, rfl, trivial⟩ | exact ⟨rfl, trivial⟩ | exact rfl
    · have c0 := hS.cell mS (i := 0) rfl
      have c1 := hS.cell mS (i := 1) rfl
      have c2 := hS.cell mS (i := 2) rfl
      have c3 := hS.cell mS (i := 3) rfl
      dsimp only at c0 c1 c2 c3
      refine wpAt_of rfl rfl ?_
      simp only [frOf, Act.put]
      go_wp2_with fail
      first | exact ⟨trivial, rfl, trivial, hS⟩ | exact ⟨rfl, trivial, hS⟩ | exact ⟨trivial, rfl, trivial⟩ | exact ⟨rfl, trivial⟩ | exact rfl
    · have k0 : vals 0 = .agg #[.slice pa m pc] := hφ 0 (hd 0 (by decide))
      have k1 : vals 1 = .agg #[.int .i64 1, .int .i64 d, .int .i64 (ai : Int), .int .i64 (bi : Int), .int .i64 r, .int .i64 l, .int .i64 h, .int .i64 t] := hφ 1 (hd 1 (by decide))
      have k2 : vals 2 = .agg #[.bool true, .slice (some ⟨sb, off, none⟩) 4 cap, .int .i64 c, .int .i64 u] := hφ 2 (hd 2 (by decide))
      refine wpAt_of rfl rfl ?_
      simp only [frOf, Act.put]
      go_wp2_with fail
      refine (canI _ _ _ _ _ _ _ _ _ _ _ _ _ _ _ _ _ _ _ _ _ _ _ _ _ _ hm hN (by omega) (hP.next hS.below) (hC.next hS.below)).mono ?_
      rintro e W' ⟨rfl, hb⟩
      rw [g.out]
      go_wp2_with fail
      first | exact ⟨trivial, rfl, trivial, HX.next hb hS⟩ | exact ⟨rfl, trivial, HX.next hb hS⟩ | exact ⟨trivial, rfl, trivial⟩ | exact ⟨rfl, trivial⟩ | exact rfl
    · have k3 : vals 3 = .bool true := hφ 3 (hd 3 (by decide))
      refine wpAt_of rfl rfl ?_
      simp only [frOf, Act.put]
      go_wp2_with fail
      first | exact ⟨trivial, rfl, trivial, hS⟩ | exact ⟨rfl, trivial, hS⟩ | exact ⟨trivial, rfl, trivial⟩ | exact ⟨rfl, trivial⟩ | exact rfl
    · have k4 : vals 4 = .bool true := hφ 4 (hd 4 (by decide))
      have c0 := hS.cell mS (i := 0) rfl
      have c1 := hS.cell mS (i := 1) rfl
      have c2 := hS.cell mS (i := 2) rfl
      have c3 := hS.cell mS (i := 3) rfl
      dsimp only at c0 c1 c2 c3
      simp only [wpAt, List.getElem?_toArray, List.getElem?_cons_succ, List.getElem?_cons_zero, slotOf, frOf, Act.put]
      go_wp2_with fail
      first | exact ⟨trivial, rfl, trivial, hS⟩ | exact ⟨rfl, trivial, hS⟩ | exact ⟨trivial, rfl, trivial⟩ | exact ⟨rfl, trivial⟩ | exact rfl
    · have k4 : vals 4 = .bool true := hφ 4 (hd 4 (by decide))
      have k5 : vals 5 = .agg #[.bool true, .slice (some ⟨sb, off, none⟩) 4 cap, .int .i64 c, .int .i64 u] := hφ 5 (hd 5 (by decide))
      simp only [wpAt, List.getElem?_toArray, List.getElem?_cons_succ, List.getElem?_cons_zero, slotOf, frOf, Act.put]
      go_wp2_with fail
      refine (arrivalT _ _ _ _ _ _ _ _ _ (hC.next hS.below)).mono ?_
      rintro e W' ⟨rfl, hb⟩
      go_wp2_with fail
      first | exact ⟨trivial, rfl, trivial, HX.next hb hS⟩ | exact ⟨rfl, trivial, HX.next hb hS⟩ | exact ⟨trivial, rfl, trivial⟩ | exact ⟨rfl, trivial⟩ | exact rfl
    · have k4 : vals 4 = .bool true := hφ 4 (hd 4 (by decide))
      have y0 := hS.cell mP (i := 0) rfl
      dsimp only at y0
      simp only [wpAt, List.getElem?_toArray, List.getElem?_cons_succ, List.getElem?_cons_zero, slotOf, frOf, Act.put]
      go_wp2_with fail
      first | exact ⟨trivial, rfl, trivial, hS⟩ | exact ⟨rfl, trivial, hS⟩ | exact ⟨trivial, rfl, trivial⟩ | exact ⟨rfl, trivial⟩ | exact rfl
    · have k4 : vals 4 = .bool true := hφ 4 (hd 4 (by decide))
      have x0 := hS.cell mI (i := 0) rfl
      have x1 := hS.cell mI (i := 1) rfl
      have x2 := hS.cell mI (i := 2) rfl
      have x3 := hS.cell mI (i := 3) rfl
      have x4 := hS.cell mI (i := 4) rfl
      have x5 := hS.cell mI (i := 5) rfl
      have x6 := hS.cell mI (i := 6) rfl
      have x7 := hS.cell mI (i := 7) rfl
      dsimp only at x0 x1 x2 x3 x4 x5 x6 x7
      simp only [wpAt, List.getElem?_toArray, List.getElem?_cons_succ, List.getElem?_cons_zero, slotOf, frOf, Act.put]
      go_wp2_with fail
      first | exact ⟨trivial, rfl, trivial, hS⟩ | exact ⟨rfl, trivial, hS⟩ | exact ⟨trivial, rfl, trivial⟩ | exact ⟨rfl, trivial⟩ | exact rfl
    · have k4 : vals 4 = .bool true := hφ 4 (hd 4 (by decide))
      have k8 : vals 8 = .agg #[.int .i64 1, .int .i64 d, .int .i64 (ai : Int), .int .i64 (bi : Int), .int .i64 r, .int .i64 l, .int .i64 h, .int .i64 t] := hφ 8 (hd 8 (by decide))
      simp only [wpAt, List.getElem?_toArray, List.getElem?_cons_succ, List.getElem?_cons_zero, slotOf, frOf, Act.put]
      go_wp2_with fail
      refine (stepOfI_1 _ _ _ _ _ _ _ _ ).mono ?_
      rintro e W' ⟨rfl, hb⟩
      go_wp2_with fail
      first | exact ⟨trivial, rfl, trivial, HX.next hb hS⟩ | exact ⟨rfl, trivial, HX.next hb hS⟩ | exact ⟨trivial, rfl, trivial⟩ | exact ⟨rfl, trivial⟩ | exact rfl
    · have k4 : vals 4 = .bool true := hφ 4 (hd 4 (by decide))
      have k6 : vals 6 = .agg #[.bool true, .int .i64 (lo 0), .int .i64 (hi 0), .int .i64 (lo 1), .int .i64 (hi 1), .int .i64 (lo 2), .int .i64 (hi 2), .int .i64 (lo 3), .int .i64 (hi 3), .int .i64 c, .int .i64 u] := hφ 6 (hd 6 (by decide))
      have k7 : vals 7 = .agg #[.slice pa m pc] := hφ 7 (hd 7 (by decide))
      have k9 : vals 9 = .iface 160 (.agg #[.int .i64 1, .int .i64 d, .int .i64 (ai : Int), .int .i64 (bi : Int)]) := hφ 9 (hd 9 (by decide))
      simp only [wpAt, List.getElem?_toArray, List.getElem?_cons_succ, List.getElem?_cons_zero, slotOf, frOf, Act.put]
      go_wp2_with fail
      refine (mayI_reckon _ _ _ (arL true lo c) (arL true hi u) _ _ _ _ _ hai hbi).mono ?_
      rintro e W' ⟨rfl, hb⟩
      simp only [hv.out]
      go_wp2_with fail
      first | exact ⟨trivial, rfl, trivial, HX.next hb hS⟩ | exact ⟨rfl, trivial, HX.next hb hS⟩ | exact ⟨trivial, rfl, trivial⟩ | exact ⟨rfl, trivial⟩ | exact rfl
    · have k4 : vals 4 = .bool true := hφ 4 (hd 4 (by decide))
      have k10 : vals 10 = .bool q := hφ 10 (hd 10 (by decide))
      refine wpAt_of rfl rfl ?_
      simp only [frOf, Act.put]
      go_wp2_with fail
      first | exact ⟨trivial, rfl, trivial, hS⟩ | exact ⟨rfl, trivial, hS⟩ | exact ⟨trivial, rfl, trivial⟩ | exact ⟨rfl, trivial⟩ | exact rfl
    · have k11 : vals 11 = .bool q := hφ 11 (hd 11 (by decide))
      refine wpAt_of rfl rfl ?_
      simp only [frOf, Act.put]
      go_wp2_with fail
      first | exact ⟨trivial, rfl, trivial, hS⟩ | exact ⟨rfl, trivial, hS⟩ | exact ⟨trivial, rfl, trivial⟩ | exact ⟨rfl, trivial⟩ | exact rfl
  · intro L vals W hall hφ hS
    have k0 : vals 0 = .agg #[.slice pa m pc] := hφ 0 (by decide)
    have k1 : vals 1 = .agg #[.int .i64 1, .int .i64 d, .int .i64 (ai : Int), .int .i64 (bi : Int), .int .i64 r, .int .i64 l, .int .i64 h, .int .i64 t] := hφ 1 (by decide)
    have k2 : vals 2 = .agg #[.bool true, .slice (some ⟨sb, off, none⟩) 4 cap, .int .i64 c, .int .i64 u] := hφ 2 (by decide)
    have k3 : vals 3 = .bool true := hφ 3 (by decide)
    have k4 : vals 4 = .bool true := hφ 4 (by decide)
    have k5 : vals 5 = .agg #[.bool true, .slice (some ⟨sb, off, none⟩) 4 cap, .int .i64 c, .int .i64 u] := hφ 5 (by decide)
    have k6 : vals 6 = .agg #[.bool true, .int .i64 (lo 0), .int .i64 (hi 0), .int .i64 (lo 1), .int .i64 (hi 1), .int .i64 (lo 2), .int .i64 (hi 2), .int .i64 (lo 3), .int .i64 (hi 3), .int .i64 c, .int .i64 u] := hφ 6 (by decide)
    have k7 : vals 7 = .agg #[.slice pa m pc] := hφ 7 (by decide)
    have k8 : vals 8 = .agg #[.int .i64 1, .int .i64 d, .int .i64 (ai : Int), .int .i64 (bi : Int), .int .i64 r, .int .i64 l, .int .i64 h, .int .i64 t] := hφ 8 (by decide)
    have k9 : vals 9 = .iface 160 (.agg #[.int .i64 1, .int .i64 d, .int .i64 (ai : Int), .int .i64 (bi : Int)]) := hφ 9 (by decide)
    have k10 : vals 10 = .bool q := hφ 10 (by decide)
    have k11 : vals 11 = .bool q := hφ 11 (by decide)
    have k12 : vals 12 = .bool q := hφ 12 (by decide)
    simp only [frOf, Act.put, List.setIfInBounds_toArray, List.set_cons_succ, List.set_cons_zero, k0, k1, k2, k3, k4, k5, k6, k7, k8, k9, k10, k11, k12]
    clear k0 k1 k2 k3 k4 k5 k6 k7 k8 k9 k10 k11 k12 hall hφ hS0
    have H := hS.1
    go_wp2_with fail
    go_ret
    exact ⟨rfl, H.below⟩
set_option maxRecDepth 10000 in
set_option maxHeartbeats 8000000 in
theorem absFailsI_2 (pa : Option Addr) (pb po m pc : Nat) (P : Nat → Proc) (S : Nat → Spot) (d : Int) (ai bi : Nat) (r l h t : Int) (sb off cap : Nat) (lo hi : Nat → Int) (c u : Int) (w : World) (hm : m ≤ 1048576) (hN : ∀ i, i < m → (P i).n ≤ 1048576) (hP : ProcsAt pa pb po m P S w) (hC : BndsAt (some ⟨sb, off, none⟩) sb off 4 lo hi w) (hai : ai < 4) (hbi : bi < 4) (g : Hid (canStep P m 2 d ai bi r l h t true 4 lo hi c u = true)) :
    Calls Try.prog 37 #[.agg #[.slice pa m pc], .agg #[.int .i64 2, .int .i64 d, .int .i64 (ai : Int), .int .i64 (bi : Int), .int .i64 r, .int .i64 l, .int .i64 h, .int .i64 t], .agg #[.bool true, .slice (some ⟨sb, off, none⟩) 4 cap, .int .i64 c, .int .i64 u]] w fun e w' => e = .returned (.bool (failB 2 r ai bi t.toNat lo hi P)) ∧ Below w.heap.size w w' := by
  obtain ⟨q, hq'⟩ : ∃ q, failB 2 r ai bi t.toNat lo hi P = q := ⟨_, rfl⟩
  have hq : Hid (failB 2 r ai bi t.toNat lo hi P = q) := hq'
  clear hq'
  rw [hq.out]
  have hv : Hid ((decide ((2 : Int) = 4) && itvHas (arL true lo c bi) (arL true hi u bi) 0) = q) := (by rw [← hq.out]; simp [failB] : _ = _)
  have H : HeldL w [(w.heap.size + 1 + 1, [Value.bool true, .slice (some ⟨sb, off, none⟩) 4 cap, .int .i64 c, .int .i64 u]), (w.heap.size + 1, [Value.int .i64 2, .int .i64 d, .int .i64 (ai : Int), .int .i64 (bi : Int), .int .i64 r, .int .i64 l, .int .i64 h, .int .i64 t]), (w.heap.size, [Value.slice pa m pc])] (((w.alloc (.cells #[.slice pa m pc] 35)).alloc (.cells #[.int .i64 2, .int .i64 d, .int .i64 (ai : Int), .int .i64 (bi : Int), .int .i64 r, .int .i64 l, .int .i64 h, .int .i64 t] 72)).alloc (.cells #[.bool true, .slice (some ⟨sb, off, none⟩) 4 cap, .int .i64 c, .int .i64 u] 77)) := by
    have e1 : w.heap.size + 1 = (w.alloc (.cells #[.slice pa m pc] 35)).heap.size := by simp
    have e2 : w.heap.size + 1 + 1 = ((w.alloc (.cells #[.slice pa m pc] 35)).alloc (.cells #[.int .i64 2, .int .i64 d, .int .i64 (ai : Int), .int .i64 (bi : Int), .int .i64 r, .int .i64 l, .int .i64 h, .int .i64 t] 72)).heap.size := by simp
    rw [e2, e1]
    exact HeldL.newL (vs := [Value.bool true, .slice (some ⟨sb, off, none⟩) 4 cap, .int .i64 c, .int .i64 u]) (HeldL.newL (vs := [Value.int .i64 2, .int .i64 d, .int .i64 (ai : Int), .int .i64 (bi : Int), .int .i64 r, .int .i64 l, .int .i64 h, .int .i64 t]) (HeldL.newL (vs := [Value.slice pa m pc]) (HeldL.nil w)))
  obtain ⟨Lb, hLb⟩ : ∃ L, L = [(w.heap.size + 1 + 1, [Value.bool true, .slice (some ⟨sb, off, none⟩) 4 cap, .int .i64 c, .int .i64 u]), (w.heap.size + 1, [Value.int .i64 2, .int .i64 d, .int .i64 (ai : Int), .int .i64 (bi : Int), .int .i64 r, .int .i64 l, .int .i64 h, .int .i64 t]), (w.heap.size, [Value.slice pa m pc])] := ⟨_, rfl⟩
  have mP : (w.heap.size, [Value.slice pa m pc]) ∈ Lb := by rw [hLb]; simp
  have mI : (w.heap.size + 1, [Value.int .i64 2, .int .i64 d, .int .i64 (ai : Int), .int .i64 (bi : Int), .int .i64 r, .int .i64 l, .int .i64 h, .int .i64 t]) ∈ Lb := by rw [hLb]; simp
  have mS : (w.heap.size + 1 + 1, [Value.bool true, .slice (some ⟨sb, off, none⟩) 4 cap, .int .i64 c, .int .i64 u]) ∈ Lb := by rw [hLb]; simp
  rw [← hLb] at H
  clear hLb
  obtain ⟨V, hV⟩ : ∃ V, V = (((w.alloc (.cells #[.slice pa m pc] 35)).alloc (.cells #[.int .i64 2, .int .i64 d, .int .i64 (ai : Int), .int .i64 (bi : Int), .int .i64 r, .int .i64 l, .int .i64 h, .int .i64 t] 72)).alloc (.cells #[.bool true, .slice (some ⟨sb, off, none⟩) 4 cap, .int .i64 c, .int .i64 u] 77)) := ⟨_, rfl⟩
  rw [← hV] at H
  have hS0 : HX w V Lb V.drew := ⟨H.drew, (Below.refl _ V).drew⟩
  clear H
  go_enter Try.func37, Try.ntmps37
  go_wp2_with fail
  rw [← hV]
  clear hV
  refine region_inv3 [(0, 7), (1, 8), (2, 9), (3, 10), (4, 11), (5, 12), (6, 13), (7, 14), (8, 15), (9, 16), (10, 17), (11, 18), (12, 6)]
    (fun j v _ => match j with
      | 0 => Is (.agg #[.slice pa m pc]) v
      | 1 => Is (.agg #[.int .i64 2, .int .i64 d, .int .i64 (ai : Int), .int .i64 (bi : Int), .int .i64 r, .int .i64 l, .int .i64 h, .int .i64 t]) v
      | 2 => Is (.agg #[.bool true, .slice (some ⟨sb, off, none⟩) 4 cap, .int .i64 c, .int .i64 u]) v
      | 3 => Is (.bool true) v
      | 4 => Is (.bool true) v
      | 5 => Is (.agg #[.bool true, .slice (some ⟨sb, off, none⟩) 4 cap, .int .i64 c, .int .i64 u]) v
      | 6 => Is (.agg #[.bool true, .int .i64 (lo 0), .int .i64 (hi 0), .int .i64 (lo 1), .int .i64 (hi 1), .int .i64 (lo 2), .int .i64 (hi 2), .int .i64 (lo 3), .int .i64 (hi 3), .int .i64 c, .int .i64 u]) v
      | 7 => Is (.agg #[.slice pa m pc]) v
      | 8 => Is (.agg #[.int .i64 2, .int .i64 d, .int .i64 (ai : Int), .int .i64 (bi : Int), .int .i64 r, .int .i64 l, .int .i64 h, .int .i64 t]) v
      | 9 => Is (.iface 160 (.agg #[.int .i64 2, .int .i64 d, .int .i64 (ai : Int), .int .i64 (bi : Int)])) v
      | 10 => Is (.bool q) v
      | 11 => Is (.bool q) v
      | 12 => Is (.bool q) v
      | _ => True)
    (fun _ W => HX w V Lb W) TT
    (by kernel_rfl) (by kernel_rfl) (by kernel_rfl) (by kernel_rfl) (by kernel_rfl) rfl hS0 (fun i j v W W' _ h _ => h) ?_ ?_
  · intro i L vals W hi' hφ hS hL hd
    have hi2 : i < 13 := hi'
    clear hi'
    rcases (show i = 0 ∨ i = 1 ∨ i = 2 ∨ i = 3 ∨ i = 4 ∨ i = 5 ∨ i = 6 ∨ i = 7 ∨ i = 8 ∨ i = 9 ∨ i = 10 ∨ i = 11 ∨ i = 12 by omega) with rfl | rfl | rfl | rfl | rfl | rfl | rfl | rfl | rfl | rfl | rfl | rfl | rfl
    · have y0 := hS.cell mP (i := 0) rfl
      dsimp only at y0
      refine wpAt_of rfl rfl ?_
      simp only [frOf, Act.put]
      go_wp2_with fail
      first | exact ⟨trivial, rfl, trivial, hS⟩ | exact ⟨rfl, trivial, hS⟩ | exact ⟨trivial, rfl, trivial⟩ | exact ⟨rfl, trivial⟩ | exact rfl
    · have x0 := hS.cell mI (i := 0) rfl
      have x1 := hS.cell mI (i := 1) rfl
      have x2 := hS.cell mI (i := 2) rfl
      have x3 := hS.cell mI (i := 3) rfl
      have x4 := hS.cell mI (i := 4) rfl
      have x5 := hS.cell mI (i := 5) rfl
      have x6 := hS.cell mI (i := 6) rfl
      have x7 := hS.cell mI (i := 7) rfl
      dsimp only at x0 x1 x2 x3 x4 x5 x6 x7
      refine wpAt_of rfl rfl ?_
      simp only [frOf, Act.put]
      go_wp2_with fail
      first | exact ⟨trivial, rfl, trivial, hS⟩ | exact ⟨rfl, trivial, hS⟩ | exact ⟨trivial, rfl, trivial⟩ | exact ⟨rfl, trivial⟩ | exact rfl
    · have c0 := hS.cell mS (i := 0) rfl
      have c1 := hS.cell mS (i := 1) rfl
      have c2 := hS.cell mS (i := 2) rfl
      have c3 := hS.cell mS (i := 3) rfl
      dsimp only at c0 c1 c2 c3
      refine wpAt_of rfl rfl ?_
      simp only [frOf, Act.put]
      go_wp2_with fail
      first | exact ⟨trivial, rfl, trivial, hS⟩ | exact ⟨rfl, trivial, hS⟩ | exact ⟨trivial, rfl, trivial⟩ | exact ⟨rfl, trivial⟩ | exact rfl
    · have k0 : vals 0 = .agg #[.slice pa m pc] := hφ 0 (hd 0 (by decide))
      have k1 : vals 1 = .agg #[.int .i64 2, .int .i64 d, .int .i64 (ai : Int), .int .i64 (bi : Int), .int .i64 r, .int .i64 l, .int .i64 h, .int .i64 t] := hφ 1 (hd 1 (by decide))
      have k2 : vals 2 = .agg #[.bool true, .slice (some ⟨sb, off, none⟩) 4 cap, .int .i64 c, .int .i64 u] := hφ 2 (hd 2 (by decide))
      refine wpAt_of rfl rfl ?_
      simp only [frOf, Act.put]
      go_wp2_with fail
      refine (canI _ _ _ _ _ _ _ _ _ _ _ _ _ _ _ _ _ _ _ _ _ _ _ _ _ _ hm hN (by omega) (hP.next hS.below) (hC.next hS.below)).mono ?_
      rintro e W' ⟨rfl, hb⟩
      rw [g.out]
      go_wp2_with fail
      first | exact ⟨trivial, rfl, trivial, HX.next hb hS⟩ | exact ⟨rfl, trivial, HX.next hb hS⟩ | exact ⟨trivial, rfl, trivial⟩ | exact ⟨rfl, trivial⟩ | exact rfl
    · have k3 : vals 3 = .bool true := hφ 3 (hd 3 (by decide))
      refine wpAt_of rfl rfl ?_
      simp only [frOf, Act.put]
      go_wp2_with fail
      first | exact ⟨trivial, rfl, trivial, hS⟩ | exact ⟨rfl, trivial, hS⟩ | exact ⟨trivial, rfl, trivial⟩ | exact ⟨rfl, trivial⟩ | exact rfl
    · have k4 : vals 4 = .bool true := hφ 4 (hd 4 (by decide))
      have c0 := hS.cell mS (i := 0) rfl
      have c1 := hS.cell mS (i := 1) rfl
      have c2 := hS.cell mS (i := 2) rfl
      have c3 := hS.cell mS (i := 3) rfl
      dsimp only at c0 c1 c2 c3
      simp only [wpAt, List.getElem?_toArray, List.getElem?_cons_succ, List.getElem?_cons_zero, slotOf, frOf, Act.put]
      go_wp2_with fail
      first | exact ⟨trivial, rfl, trivial, hS⟩ | exact ⟨rfl, trivial, hS⟩ | exact ⟨trivial, rfl, trivial⟩ | exact ⟨rfl, trivial⟩ | exact rfl
    · have k4 : vals 4 = .bool true := hφ 4 (hd 4 (by decide))
      have k5 : vals 5 = .agg #[.bool true, .slice (some ⟨sb, off, none⟩) 4 cap, .int .i64 c, .int .i64 u] := hφ 5 (hd 5 (by decide))
      simp only [wpAt, List.getElem?_toArray, List.getElem?_cons_succ, List.getElem?_cons_zero, slotOf, frOf, Act.put]
      go_wp2_with fail
      refine (arrivalT _ _ _ _ _ _ _ _ _ (hC.next hS.below)).mono ?_
      rintro e W' ⟨rfl, hb⟩
      go_wp2_with fail
      first | exact ⟨trivial, rfl, trivial, HX.next hb hS⟩ | exact ⟨rfl, trivial, HX.next hb hS⟩ | exact ⟨trivial, rfl, trivial⟩ | exact ⟨rfl, trivial⟩ | exact rfl
    · have k4 : vals 4 = .bool true := hφ 4 (hd 4 (by decide))
      have y0 := hS.cell mP (i := 0) rfl
      dsimp only at y0
      simp only [wpAt, List.getElem?_toArray, List.getElem?_cons_succ, List.getElem?_cons_zero, slotOf, frOf, Act.put]
      go_wp2_with fail
      first | exact ⟨trivial, rfl, trivial, hS⟩ | exact ⟨rfl, trivial, hS⟩ | exact ⟨trivial, rfl, trivial⟩ | exact ⟨rfl, trivial⟩ | exact rfl
    · have k4 : vals 4 = .bool true := hφ 4 (hd 4 (by decide))
      have x0 := hS.cell mI (i := 0) rfl
      have x1 := hS.cell mI (i := 1) rfl
      have x2 := hS.cell mI (i := 2) rfl
      have x3 := hS.cell mI (i := 3) rfl
      have x4 := hS.cell mI (i := 4) rfl
      have x5 := hS.cell mI (i := 5) rfl
      have x6 := hS.cell mI (i := 6) rfl
      have x7 := hS.cell mI (i := 7) rfl
      dsimp only at x0 x1 x2 x3 x4 x5 x6 x7
      simp only [wpAt, List.getElem?_toArray, List.getElem?_cons_succ, List.getElem?_cons_zero, slotOf, frOf, Act.put]
      go_wp2_with fail
      first | exact ⟨trivial, rfl, trivial, hS⟩ | exact ⟨rfl, trivial, hS⟩ | exact ⟨trivial, rfl, trivial⟩ | exact ⟨rfl, trivial⟩ | exact rfl
    · have k4 : vals 4 = .bool true := hφ 4 (hd 4 (by decide))
      have k8 : vals 8 = .agg #[.int .i64 2, .int .i64 d, .int .i64 (ai : Int), .int .i64 (bi : Int), .int .i64 r, .int .i64 l, .int .i64 h, .int .i64 t] := hφ 8 (hd 8 (by decide))
      simp only [wpAt, List.getElem?_toArray, List.getElem?_cons_succ, List.getElem?_cons_zero, slotOf, frOf, Act.put]
      go_wp2_with fail
      refine (stepOfI_2 _ _ _ _ _ _ _ _ ).mono ?_
      rintro e W' ⟨rfl, hb⟩
      go_wp2_with fail
      first | exact ⟨trivial, rfl, trivial, HX.next hb hS⟩ | exact ⟨rfl, trivial, HX.next hb hS⟩ | exact ⟨trivial, rfl, trivial⟩ | exact ⟨rfl, trivial⟩ | exact rfl
    · have k4 : vals 4 = .bool true := hφ 4 (hd 4 (by decide))
      have k6 : vals 6 = .agg #[.bool true, .int .i64 (lo 0), .int .i64 (hi 0), .int .i64 (lo 1), .int .i64 (hi 1), .int .i64 (lo 2), .int .i64 (hi 2), .int .i64 (lo 3), .int .i64 (hi 3), .int .i64 c, .int .i64 u] := hφ 6 (hd 6 (by decide))
      have k7 : vals 7 = .agg #[.slice pa m pc] := hφ 7 (hd 7 (by decide))
      have k9 : vals 9 = .iface 160 (.agg #[.int .i64 2, .int .i64 d, .int .i64 (ai : Int), .int .i64 (bi : Int)]) := hφ 9 (hd 9 (by decide))
      simp only [wpAt, List.getElem?_toArray, List.getElem?_cons_succ, List.getElem?_cons_zero, slotOf, frOf, Act.put]
      go_wp2_with fail
      refine (mayI_reckon _ _ _ (arL true lo c) (arL true hi u) _ _ _ _ _ hai hbi).mono ?_
      rintro e W' ⟨rfl, hb⟩
      simp only [hv.out]
      go_wp2_with fail
      first | exact ⟨trivial, rfl, trivial, HX.next hb hS⟩ | exact ⟨rfl, trivial, HX.next hb hS⟩ | exact ⟨trivial, rfl, trivial⟩ | exact ⟨rfl, trivial⟩ | exact rfl
    · have k4 : vals 4 = .bool true := hφ 4 (hd 4 (by decide))
      have k10 : vals 10 = .bool q := hφ 10 (hd 10 (by decide))
      refine wpAt_of rfl rfl ?_
      simp only [frOf, Act.put]
      go_wp2_with fail
      first | exact ⟨trivial, rfl, trivial, hS⟩ | exact ⟨rfl, trivial, hS⟩ | exact ⟨trivial, rfl, trivial⟩ | exact ⟨rfl, trivial⟩ | exact rfl
    · have k11 : vals 11 = .bool q := hφ 11 (hd 11 (by decide))
      refine wpAt_of rfl rfl ?_
      simp only [frOf, Act.put]
      go_wp2_with fail
      first | exact ⟨trivial, rfl, trivial, hS⟩ | exact ⟨rfl, trivial, hS⟩ | exact ⟨trivial, rfl, trivial⟩ | exact ⟨rfl, trivial⟩ | exact rfl
  · intro L vals W hall hφ hS
    have k0 : vals 0 = .agg #[.slice pa m pc] := hφ 0 (by decide)
    have k1 : vals 1 = .agg #[.int .i64 2, .int .i64 d, .int .i64 (ai : Int), .int .i64 (bi : Int), .int .i64 r, .int .i64 l, .int .i64 h, .int .i64 t] := hφ 1 (by decide)
    have k2 : vals 2 = .agg #[.bool true, .slice (some ⟨sb, off, none⟩) 4 cap, .int .i64 c, .int .i64 u] := hφ 2 (by decide)
    have k3 : vals 3 = .bool true := hφ 3 (by decide)
    have k4 : vals 4 = .bool true := hφ 4 (by decide)
    have k5 : vals 5 = .agg #[.bool true, .slice (some ⟨sb, off, none⟩) 4 cap, .int .i64 c, .int .i64 u] := hφ 5 (by decide)
    have k6 : vals 6 = .agg #[.bool true, .int .i64 (lo 0), .int .i64 (hi 0), .int .i64 (lo 1), .int .i64 (hi 1), .int .i64 (lo 2), .int .i64 (hi 2), .int .i64 (lo 3), .int .i64 (hi 3), .int .i64 c, .int .i64 u] := hφ 6 (by decide)
    have k7 : vals 7 = .agg #[.slice pa m pc] := hφ 7 (by decide)
    have k8 : vals 8 = .agg #[.int .i64 2, .int .i64 d, .int .i64 (ai : Int), .int .i64 (bi : Int), .int .i64 r, .int .i64 l, .int .i64 h, .int .i64 t] := hφ 8 (by decide)
    have k9 : vals 9 = .iface 160 (.agg #[.int .i64 2, .int .i64 d, .int .i64 (ai : Int), .int .i64 (bi : Int)]) := hφ 9 (by decide)
    have k10 : vals 10 = .bool q := hφ 10 (by decide)
    have k11 : vals 11 = .bool q := hφ 11 (by decide)
    have k12 : vals 12 = .bool q := hφ 12 (by decide)
    simp only [frOf, Act.put, List.setIfInBounds_toArray, List.set_cons_succ, List.set_cons_zero, k0, k1, k2, k3, k4, k5, k6, k7, k8, k9, k10, k11, k12]
    clear k0 k1 k2 k3 k4 k5 k6 k7 k8 k9 k10 k11 k12 hall hφ hS0
    have H := hS.1
    go_wp2_with fail
    go_ret
    exact ⟨rfl, H.below⟩
set_option maxRecDepth 10000 in
set_option maxHeartbeats 8000000 in
theorem absFailsI_3 (pa : Option Addr) (pb po m pc : Nat) (P : Nat → Proc) (S : Nat → Spot) (d : Int) (ai bi : Nat) (r l h t : Int) (sb off cap : Nat) (lo hi : Nat → Int) (c u : Int) (w : World) (hm : m ≤ 1048576) (hN : ∀ i, i < m → (P i).n ≤ 1048576) (hP : ProcsAt pa pb po m P S w) (hC : BndsAt (some ⟨sb, off, none⟩) sb off 4 lo hi w) (hai : ai < 4) (hbi : bi < 4) (g : Hid (canStep P m 3 d ai bi r l h t true 4 lo hi c u = true)) :
    Calls Try.prog 37 #[.agg #[.slice pa m pc], .agg #[.int .i64 3, .int .i64 d, .int .i64 (ai : Int), .int .i64 (bi : Int), .int .i64 r, .int .i64 l, .int .i64 h, .int .i64 t], .agg #[.bool true, .slice (some ⟨sb, off, none⟩) 4 cap, .int .i64 c, .int .i64 u]] w fun e w' => e = .returned (.bool (failB 3 r ai bi t.toNat lo hi P)) ∧ Below w.heap.size w w' := by
  obtain ⟨q, hq'⟩ : ∃ q, failB 3 r ai bi t.toNat lo hi P = q := ⟨_, rfl⟩
  have hq : Hid (failB 3 r ai bi t.toNat lo hi P = q) := hq'
  clear hq'
  rw [hq.out]
  have hv : Hid ((decide ((3 : Int) = 4) && itvHas (arL true lo c bi) (arL true hi u bi) 0) = q) := (by rw [← hq.out]; simp [failB] : _ = _)
  have H : HeldL w [(w.heap.size + 1 + 1, [Value.bool true, .slice (some ⟨sb, off, none⟩) 4 cap, .int .i64 c, .int .i64 u]), (w.heap.size + 1, [Value.int .i64 3, .int .i64 d, .int .i64 (ai : Int), .int .i64 (bi : Int), .int .i64 r, .int .i64 l, .int .i64 h, .int .i64 t]), (w.heap.size, [Value.slice pa m pc])] (((w.alloc (.cells #[.slice pa m pc] 35)).alloc (.cells #[.int .i64 3, .int .i64 d, .int .i64 (ai : Int), .int .i64 (bi : Int), .int .i64 r, .int .i64 l, .int .i64 h, .int .i64 t] 72)).alloc (.cells #[.bool true, .slice (some ⟨sb, off, none⟩) 4 cap, .int .i64 c, .int .i64 u] 77)) := by
    have e1 : w.heap.size + 1 = (w.alloc (.cells #[.slice pa m pc] 35)).heap.size := by simp
    have e2 : w.heap.size + 1 + 1 = ((w.alloc (.cells #[.slice pa m pc] 35)).alloc (.cells #[.int .i64 3, .int .i64 d, .int .i64 (ai : Int), .int .i64 (bi : Int), .int .i64 r, .int .i64 l, .int .i64 h, .int .i64 t] 72)).heap.size := by simp
    rw [e2, e1]
    exact HeldL.newL (vs := [Value.bool true, .slice (some ⟨sb, off, none⟩) 4 cap, .int .i64 c, .int .i64 u]) (HeldL.newL (vs := [Value.int .i64 3, .int .i64 d, .int .i64 (ai : Int), .int .i64 (bi : Int), .int .i64 r, .int .i64 l, .int .i64 h, .int .i64 t]) (HeldL.newL (vs := [Value.slice pa m pc]) (HeldL.nil w)))
  obtain ⟨Lb, hLb⟩ : ∃ L, L = [(w.heap.size + 1 + 1, [Value.bool true, .slice (some ⟨sb, off, none⟩) 4 cap, .int .i64 c, .int .i64 u]), (w.heap.size + 1, [Value.int .i64 3, .int .i64 d, .int .i64 (ai : Int), .int .i64 (bi : Int), .int .i64 r, .int .i64 l, .int .i64 h, .int .i64 t]), (w.heap.size, [Value.slice pa m pc])] := ⟨_, rfl⟩
  have mP : (w.heap.size, [Value.slice pa m pc]) ∈ Lb := by rw [hLb]; simp
  have mI : (w.heap.size + 1, [Value.int .i64 3, .int .i64 d, .int .i64 (ai : Int), .int .i64 (bi : Int), .int .i64 r, .int .i64 l, .int .i64 h, .int .i64 t]) ∈ Lb := by rw [hLb]; simp
  have mS : (w.heap.size + 1 + 1, [Value.bool true, .slice (some ⟨sb, off, none⟩) 4 cap, .int .i64 c, .int .i64 u]) ∈ Lb := by rw [hLb]; simp
  rw [← hLb] at H
  clear hLb
  obtain ⟨V, hV⟩ : ∃ V, V = (((w.alloc (.cells #[.slice pa m pc] 35)).alloc (.cells #[.int .i64 3, .int .i64 d, .int .i64 (ai : Int), .int .i64 (bi : Int), .int .i64 r, .int .i64 l, .int .i64 h, .int .i64 t] 72)).alloc (.cells #[.bool true, .slice (some ⟨sb, off, none⟩) 4 cap, .int .i64 c, .int .i64 u] 77)) := ⟨_, rfl⟩
  rw [← hV] at H
  have hS0 : HX w V Lb V.drew := ⟨H.drew, (Below.refl _ V).drew⟩
  clear H
  go_enter Try.func37, Try.ntmps37
  go_wp2_with fail
  rw [← hV]
  clear hV
  refine region_inv3 [(0, 7), (1, 8), (2, 9), (3, 10), (4, 11), (5, 12), (6, 13), (7, 14), (8, 15), (9, 16), (10, 17), (11, 18), (12, 6)]
    (fun j v _ => match j with
      | 0 => Is (.agg #[.slice pa m pc]) v
      | 1 => Is (.agg #[.int .i64 3, .int .i64 d, .int .i64 (ai : Int), .int .i64 (bi : Int), .int .i64 r, .int .i64 l, .int .i64 h, .int .i64 t]) v
      | 2 => Is (.agg #[.bool true, .slice (some ⟨sb, off, none⟩) 4 cap, .int .i64 c, .int .i64 u]) v
      | 3 => Is (.bool true) v
      | 4 => Is (.bool true) v
      | 5 => Is (.agg #[.bool true, .slice (some ⟨sb, off, none⟩) 4 cap, .int .i64 c, .int .i64 u]) v
      | 6 => Is (.agg #[.bool true, .int .i64 (lo 0), .int .i64 (hi 0), .int .i64 (lo 1), .int .i64 (hi 1), .int .i64 (lo 2), .int .i64 (hi 2), .int .i64 (lo 3), .int .i64 (hi 3), .int .i64 c, .int .i64 u]) v
      | 7 => Is (.agg #[.slice pa m pc]) v
      | 8 => Is (.agg #[.int .i64 3, .int .i64 d, .int .i64 (ai : Int), .int .i64 (bi : Int), .int .i64 r, .int .i64 l, .int .i64 h, .int .i64 t]) v
      | 9 => Is (.iface 160 (.agg #[.int .i64 3, .int .i64 d, .int .i64 (ai : Int), .int .i64 (bi : Int)])) v
      | 10 => Is (.bool q) v
      | 11 => Is (.bool q) v
      | 12 => Is (.bool q) v
      | _ => True)
    (fun _ W => HX w V Lb W) TT
    (by kernel_rfl) (by kernel_rfl) (by kernel_rfl) (by kernel_rfl) (by kernel_rfl) rfl hS0 (fun i j v W W' _ h _ => h) ?_ ?_
  · intro i L vals W hi' hφ hS hL hd
    have hi2 : i < 13 := hi'
    clear hi'
    rcases (show i = 0 ∨ i = 1 ∨ i = 2 ∨ i = 3 ∨ i = 4 ∨ i = 5 ∨ i = 6 ∨ i = 7 ∨ i = 8 ∨ i = 9 ∨ i = 10 ∨ i = 11 ∨ i = 12 by omega) with rfl | rfl | rfl | rfl | rfl | rfl | rfl | rfl | rfl | rfl | rfl | rfl | rfl
    · have y0 := hS.cell mP (i := 0) rfl
      dsimp only at y0
      refine wpAt_of rfl rfl ?_
      simp only [frOf, Act.put]
      go_wp2_with fail
      first | exact ⟨trivial, rfl, trivial, hS⟩ | exact ⟨rfl, trivial, hS⟩ | exact ⟨trivial, rfl, trivial⟩ | exact ⟨rfl, trivial⟩ | exact rfl
    · have x0 := hS.cell mI (i := 0) rfl
      have x1 := hS.cell mI (i := 1) rfl
      have x2 := hS.cell mI (i := 2) rfl
      have x3 := hS.cell mI (i := 3) rfl
      have x4 := hS.cell mI (i := 4) rfl
      have x5 := hS.cell mI (i := 5) rfl
      have x6 := hS.cell mI (i := 6) rfl
      have x7 := hS.cell mI (i := 7) rfl
      dsimp only at x0 x1 x2 x3 x4 x5 x6 x7
      refine wpAt_of rfl rfl ?_
      simp only [frOf, Act.put]
      go_wp2_with fail
      first | exact ⟨trivial, rfl, trivial, hS⟩ | exact ⟨rfl, trivial, hS⟩ | exact ⟨trivial, rfl, trivial⟩ | exact ⟨rfl, trivial⟩ | exact rfl
    · have c0 := hS.cell mS (i := 0) rfl
      have c1 := hS.cell mS (i := 1) rfl
      have c2 := hS.cell mS (i := 2) rfl
      have c3 := hS.cell mS (i := 3) rfl
      dsimp only at c0 c1 c2 c3
      refine wpAt_of rfl rfl ?_
      simp only [frOf, Act.put]
      go_wp2_with fail
      first | exact ⟨trivial, rfl, trivial, hS⟩ | exact ⟨rfl, trivial, hS⟩ | exact ⟨trivial, rfl, trivial⟩ | exact ⟨rfl, trivial⟩ | exact rfl
    · have k0 : vals 0 = .agg #[.slice pa m pc] := hφ 0 (hd 0 (by decide))
      have k1 : vals 1 = .agg #[.int .i64 3, .int .i64 d, .int .i64 (ai : Int), .int .i64 (bi : Int), .int .i64 r, .int .i64 l, .int .i64 h, .int .i64 t] := hφ 1 (hd 1 (by decide))
      have k2 : vals 2 = .agg #[.bool true, .slice (some ⟨sb, off, none⟩) 4 cap, .int .i64 c, .int .i64 u] := hφ 2 (hd 2 (by decide))
      refine wpAt_of rfl rfl ?_
      simp only [frOf, Act.put]
      go_wp2_with fail
      refine (canI _ _ _ _ _ _ _ _ _ _ _ _ _ _ _ _ _ _ _ _ _ _ _ _ _ _ hm hN (by omega) (hP.next hS.below) (hC.next hS.below)).mono ?_
      rintro e W' ⟨rfl, hb⟩
      rw [g.out]
      go_wp2_with fail
      first | exact ⟨trivial, rfl, trivial, HX.next hb hS⟩ | exact ⟨rfl, trivial, HX.next hb hS⟩ | exact ⟨trivial, rfl, trivial⟩ | exact ⟨rfl, trivial⟩ | exact rfl
    · have k3 : vals 3 = .bool true := hφ 3 (hd 3 (by decide))
      refine wpAt_of rfl rfl ?_
      simp only [frOf, Act.put]
      go_wp2_with fail
      first | exact ⟨trivial, rfl, trivial, hS⟩ | exact ⟨rfl, trivial, hS⟩ | exact ⟨trivial, rfl, trivial⟩ | exact ⟨rfl, trivial⟩ | exact rfl
    · have k4 : vals 4 = .bool true := hφ 4 (hd 4 (by decide))
      have c0 := hS.cell mS (i := 0) rfl
      have c1 := hS.cell mS (i := 1) rfl
      have c2 := hS.cell mS (i := 2) rfl
      have c3 := hS.cell mS (i := 3) rfl
      dsimp only at c0 c1 c2 c3
      simp only [wpAt, List.getElem?_toArray, List.getElem?_cons_succ, List.getElem?_cons_zero, slotOf, frOf, Act.put]
      go_wp2_with fail
      first | exact ⟨trivial, rfl, trivial, hS⟩ | exact ⟨rfl, trivial, hS⟩ | exact ⟨trivial, rfl, trivial⟩ | exact ⟨rfl, trivial⟩ | exact rfl
    · have k4 : vals 4 = .bool true := hφ 4 (hd 4 (by decide))
      have k5 : vals 5 = .agg #[.bool true, .slice (some ⟨sb, off, none⟩) 4 cap, .int .i64 c, .int .i64 u] := hφ 5 (hd 5 (by decide))
      simp only [wpAt, List.getElem?_toArray, List.getElem?_cons_succ, List.getElem?_cons_zero, slotOf, frOf, Act.put]
      go_wp2_with fail
      refine (arrivalT _ _ _ _ _ _ _ _ _ (hC.next hS.below)).mono ?_
      rintro e W' ⟨rfl, hb⟩
      go_wp2_with fail
      first | exact ⟨trivial, rfl, trivial, HX.next hb hS⟩ | exact ⟨rfl, trivial, HX.next hb hS⟩ | exact ⟨trivial, rfl, trivial⟩ | exact ⟨rfl, trivial⟩ | exact rfl
    · have k4 : vals 4 = .bool true := hφ 4 (hd 4 (by decide))
      have y0 := hS.cell mP (i := 0) rfl
      dsimp only at y0
      simp only [wpAt, List.getElem?_toArray, List.getElem?_cons_succ, List.getElem?_cons_zero, slotOf, frOf, Act.put]
      go_wp2_with fail
      first | exact ⟨trivial, rfl, trivial, hS⟩ | exact ⟨rfl, trivial, hS⟩ | exact ⟨trivial, rfl, trivial⟩ | exact ⟨rfl, trivial⟩ | exact rfl
    · have k4 : vals 4 = .bool true := hφ 4 (hd 4 (by decide))
      have x0 := hS.cell mI (i := 0) rfl
      have x1 := hS.cell mI (i := 1) rfl
      have x2 := hS.cell mI (i := 2) rfl
      have x3 := hS.cell mI (i := 3) rfl
      have x4 := hS.cell mI (i := 4) rfl
      have x5 := hS.cell mI (i := 5) rfl
      have x6 := hS.cell mI (i := 6) rfl
      have x7 := hS.cell mI (i := 7) rfl
      dsimp only at x0 x1 x2 x3 x4 x5 x6 x7
      simp only [wpAt, List.getElem?_toArray, List.getElem?_cons_succ, List.getElem?_cons_zero, slotOf, frOf, Act.put]
      go_wp2_with fail
      first | exact ⟨trivial, rfl, trivial, hS⟩ | exact ⟨rfl, trivial, hS⟩ | exact ⟨trivial, rfl, trivial⟩ | exact ⟨rfl, trivial⟩ | exact rfl
    · have k4 : vals 4 = .bool true := hφ 4 (hd 4 (by decide))
      have k8 : vals 8 = .agg #[.int .i64 3, .int .i64 d, .int .i64 (ai : Int), .int .i64 (bi : Int), .int .i64 r, .int .i64 l, .int .i64 h, .int .i64 t] := hφ 8 (hd 8 (by decide))
      simp only [wpAt, List.getElem?_toArray, List.getElem?_cons_succ, List.getElem?_cons_zero, slotOf, frOf, Act.put]
      go_wp2_with fail
      refine (stepOfI_3 _ _ _ _ _ _ _ _ ).mono ?_
      rintro e W' ⟨rfl, hb⟩
      go_wp2_with fail
      first | exact ⟨trivial, rfl, trivial, HX.next hb hS⟩ | exact ⟨rfl, trivial, HX.next hb hS⟩ | exact ⟨trivial, rfl, trivial⟩ | exact ⟨rfl, trivial⟩ | exact rfl
    · have k4 : vals 4 = .bool true := hφ 4 (hd 4 (by decide))
      have k6 : vals 6 = .agg #[.bool true, .int .i64 (lo 0), .int .i64 (hi 0), .int .i64 (lo 1), .int .i64 (hi 1), .int .i64 (lo 2), .int .i64 (hi 2), .int .i64 (lo 3), .int .i64 (hi 3), .int .i64 c, .int .i64 u] := hφ 6 (hd 6 (by decide))
      have k7 : vals 7 = .agg #[.slice pa m pc] := hφ 7 (hd 7 (by decide))
      have k9 : vals 9 = .iface 160 (.agg #[.int .i64 3, .int .i64 d, .int .i64 (ai : Int), .int .i64 (bi : Int)]) := hφ 9 (hd 9 (by decide))
      simp only [wpAt, List.getElem?_toArray, List.getElem?_cons_succ, List.getElem?_cons_zero, slotOf, frOf, Act.put]
      go_wp2_with fail
      refine (mayI_reckon _ _ _ (arL true lo c) (arL true hi u) _ _ _ _ _ hai hbi).mono ?_
      rintro e W' ⟨rfl, hb⟩
      simp only [hv.out]
      go_wp2_with fail
      first | exact ⟨trivial, rfl, trivial, HX.next hb hS⟩ | exact ⟨rfl, trivial, HX.next hb hS⟩ | exact ⟨trivial, rfl, trivial⟩ | exact ⟨rfl, trivial⟩ | exact rfl
    · have k4 : vals 4 = .bool true := hφ 4 (hd 4 (by decide))
      have k10 : vals 10 = .bool q := hφ 10 (hd 10 (by decide))
      refine wpAt_of rfl rfl ?_
      simp only [frOf, Act.put]
      go_wp2_with fail
      first | exact ⟨trivial, rfl, trivial, hS⟩ | exact ⟨rfl, trivial, hS⟩ | exact ⟨trivial, rfl, trivial⟩ | exact ⟨rfl, trivial⟩ | exact rfl
    · have k11 : vals 11 = .bool q := hφ 11 (hd 11 (by decide))
      refine wpAt_of rfl rfl ?_
      simp only [frOf, Act.put]
      go_wp2_with fail
      first | exact ⟨trivial, rfl, trivial, hS⟩ | exact ⟨rfl, trivial, hS⟩ | exact ⟨trivial, rfl, trivial⟩ | exact ⟨rfl, trivial⟩ | exact rfl
  · intro L vals W hall hφ hS
    have k0 : vals 0 = .agg #[.slice pa m pc] := hφ 0 (by decide)
    have k1 : vals 1 = .agg #[.int .i64 3, .int .i64 d, .int .i64 (ai : Int), .int .i64 (bi : Int), .int .i64 r, .int .i64 l, .int .i64 h, .int .i64 t] := hφ 1 (by decide)
    have k2 : vals 2 = .agg #[.bool true, .slice (some ⟨sb, off, none⟩) 4 cap, .int .i64 c, .int .i64 u] := hφ 2 (by decide)
    have k3 : vals 3 = .bool true := hφ 3 (by decide)
    have k4 : vals 4 = .bool true := hφ 4 (by decide)
    have k5 : vals 5 = .agg #[.bool true, .slice (some ⟨sb, off, none⟩) 4 cap, .int .i64 c, .int .i64 u] := hφ 5 (by decide)
    have k6 : vals 6 = .agg #[.bool true, .int .i64 (lo 0), .int .i64 (hi 0), .int .i64 (lo 1), .int .i64 (hi 1), .int .i64 (lo 2), .int .i64 (hi 2), .int .i64 (lo 3), .int .i64 (hi 3), .int .i64 c, .int .i64 u] := hφ 6 (by decide)
    have k7 : vals 7 = .agg #[.slice pa m pc] := hφ 7 (by decide)
    have k8 : vals 8 = .agg #[.int .i64 3, .int .i64 d, .int .i64 (ai : Int), .int .i64 (bi : Int), .int .i64 r, .int .i64 l, .int .i64 h, .int .i64 t] := hφ 8 (by decide)
    have k9 : vals 9 = .iface 160 (.agg #[.int .i64 3, .int .i64 d, .int .i64 (ai : Int), .int .i64 (bi : Int)]) := hφ 9 (by decide)
    have k10 : vals 10 = .bool q := hφ 10 (by decide)
    have k11 : vals 11 = .bool q := hφ 11 (by decide)
    have k12 : vals 12 = .bool q := hφ 12 (by decide)
    simp only [frOf, Act.put, List.setIfInBounds_toArray, List.set_cons_succ, List.set_cons_zero, k0, k1, k2, k3, k4, k5, k6, k7, k8, k9, k10, k11, k12]
    clear k0 k1 k2 k3 k4 k5 k6 k7 k8 k9 k10 k11 k12 hall hφ hS0
    have H := hS.1
    go_wp2_with fail
    go_ret
    exact ⟨rfl, H.below⟩
set_option maxRecDepth 10000 in
set_option maxHeartbeats 8000000 in
theorem absFailsI_4 (pa : Option Addr) (pb po m pc : Nat) (P : Nat → Proc) (S : Nat → Spot) (d : Int) (ai bi : Nat) (r l h t : Int) (sb off cap : Nat) (lo hi : Nat → Int) (c u : Int) (w : World) (hm : m ≤ 1048576) (hN : ∀ i, i < m → (P i).n ≤ 1048576) (hP : ProcsAt pa pb po m P S w) (hC : BndsAt (some ⟨sb, off, none⟩) sb off 4 lo hi w) (hai : ai < 4) (hbi : bi < 4) (g : Hid (canStep P m 4 d ai bi r l h t true 4 lo hi c u = true)) :
    Calls Try.prog 37 #[.agg #[.slice pa m pc], .agg #[.int .i64 4, .int .i64 d, .int .i64 (ai : Int), .int .i64 (bi : Int), .int .i64 r, .int .i64 l, .int .i64 h, .int .i64 t], .agg #[.bool true, .slice (some ⟨sb, off, none⟩) 4 cap, .int .i64 c, .int .i64 u]] w fun e w' => e = .returned (.bool (failB 4 r ai bi t.toNat lo hi P)) ∧ Below w.heap.size w w' := by
  obtain ⟨q, hq'⟩ : ∃ q, failB 4 r ai bi t.toNat lo hi P = q := ⟨_, rfl⟩
  have hq : Hid (failB 4 r ai bi t.toNat lo hi P = q) := hq'
  clear hq'
  rw [hq.out]
  have hv : Hid ((decide ((4 : Int) = 4) && itvHas (arL true lo c bi) (arL true hi u bi) 0) = q) := (by rw [← hq.out]; simp [failB, arL, hbi] : _ = _)
  have H : HeldL w [(w.heap.size + 1 + 1, [Value.bool true, .slice (some ⟨sb, off, none⟩) 4 cap, .int .i64 c, .int .i64 u]), (w.heap.size + 1, [Value.int .i64 4, .int .i64 d, .int .i64 (ai : Int), .int .i64 (bi : Int), .int .i64 r, .int .i64 l, .int .i64 h, .int .i64 t]), (w.heap.size, [Value.slice pa m pc])] (((w.alloc (.cells #[.slice pa m pc] 35)).alloc (.cells #[.int .i64 4, .int .i64 d, .int .i64 (ai : Int), .int .i64 (bi : Int), .int .i64 r, .int .i64 l, .int .i64 h, .int .i64 t] 72)).alloc (.cells #[.bool true, .slice (some ⟨sb, off, none⟩) 4 cap, .int .i64 c, .int .i64 u] 77)) := by
    have e1 : w.heap.size + 1 = (w.alloc (.cells #[.slice pa m pc] 35)).heap.size := by simp
    have e2 : w.heap.size + 1 + 1 = ((w.alloc (.cells #[.slice pa m pc] 35)).alloc (.cells #[.int .i64 4, .int .i64 d, .int .i64 (ai : Int), .int .i64 (bi : Int), .int .i64 r, .int .i64 l, .int .i64 h, .int .i64 t] 72)).heap.size := by simp
    rw [e2, e1]
    exact HeldL.newL (vs := [Value.bool true, .slice (some ⟨sb, off, none⟩) 4 cap, .int .i64 c, .int .i64 u]) (HeldL.newL (vs := [Value.int .i64 4, .int .i64 d, .int .i64 (ai : Int), .int .i64 (bi : Int), .int .i64 r, .int .i64 l, .int .i64 h, .int .i64 t]) (HeldL.newL (vs := [Value.slice pa m pc]) (HeldL.nil w)))
  obtain ⟨Lb, hLb⟩ : ∃ L, L = [(w.heap.size + 1 + 1, [Value.bool true, .slice (some ⟨sb, off, none⟩) 4 cap, .int .i64 c, .int .i64 u]), (w.heap.size + 1, [Value.int .i64 4, .int .i64 d, .int .i64 (ai : Int), .int .i64 (bi : Int), .int .i64 r, .int .i64 l, .int .i64 h, .int .i64 t]), (w.heap.size, [Value.slice pa m pc])] := ⟨_, rfl⟩
  have mP : (w.heap.size, [Value.slice pa m pc]) ∈ Lb := by rw [hLb]; simp
  have mI : (w.heap.size + 1, [Value.int .i64 4, .int .i64 d, .int .i64 (ai : Int), .int .i64 (bi : Int), .int .i64 r, .int .i64 l, .int .i64 h, .int .i64 t]) ∈ Lb := by rw [hLb]; simp
  have mS : (w.heap.size + 1 + 1, [Value.bool true, .slice (some ⟨sb, off, none⟩) 4 cap, .int .i64 c, .int .i64 u]) ∈ Lb := by rw [hLb]; simp
  rw [← hLb] at H
  clear hLb
  obtain ⟨V, hV⟩ : ∃ V, V = (((w.alloc (.cells #[.slice pa m pc] 35)).alloc (.cells #[.int .i64 4, .int .i64 d, .int .i64 (ai : Int), .int .i64 (bi : Int), .int .i64 r, .int .i64 l, .int .i64 h, .int .i64 t] 72)).alloc (.cells #[.bool true, .slice (some ⟨sb, off, none⟩) 4 cap, .int .i64 c, .int .i64 u] 77)) := ⟨_, rfl⟩
  rw [← hV] at H
  have hS0 : HX w V Lb V.drew := ⟨H.drew, (Below.refl _ V).drew⟩
  clear H
  go_enter Try.func37, Try.ntmps37
  go_wp2_with fail
  rw [← hV]
  clear hV
  refine region_inv3 [(0, 7), (1, 8), (2, 9), (3, 10), (4, 11), (5, 12), (6, 13), (7, 14), (8, 15), (9, 16), (10, 17), (11, 18), (12, 6)]
    (fun j v _ => match j with
      | 0 => Is (.agg #[.slice pa m pc]) v
      | 1 => Is (.agg #[.int .i64 4, .int .i64 d, .int .i64 (ai : Int), .int .i64 (bi : Int), .int .i64 r, .int .i64 l, .int .i64 h, .int .i64 t]) v
      | 2 => Is (.agg #[.bool true, .slice (some ⟨sb, off, none⟩) 4 cap, .int .i64 c, .int .i64 u]) v
      | 3 => Is (.bool true) v
      | 4 => Is (.bool true) v
      | 5 => Is (.agg #[.bool true, .slice (some ⟨sb, off, none⟩) 4 cap, .int .i64 c, .int .i64 u]) v
      | 6 => Is (.agg #[.bool true, .int .i64 (lo 0), .int .i64 (hi 0), .int .i64 (lo 1), .int .i64 (hi 1), .int .i64 (lo 2), .int .i64 (hi 2), .int .i64 (lo 3), .int .i64 (hi 3), .int .i64 c, .int .i64 u]) v
      | 7 => Is (.agg #[.slice pa m pc]) v
      | 8 => Is (.agg #[.int .i64 4, .int .i64 d, .int .i64 (ai : Int), .int .i64 (bi : Int), .int .i64 r, .int .i64 l, .int .i64 h, .int .i64 t]) v
      | 9 => Is (.iface 160 (.agg #[.int .i64 4, .int .i64 d, .int .i64 (ai : Int), .int .i64 (bi : Int)])) v
      | 10 => Is (.bool q) v
      | 11 => Is (.bool q) v
      | 12 => Is (.bool q) v
      | _ => True)
    (fun _ W => HX w V Lb W) TT
    (by kernel_rfl) (by kernel_rfl) (by kernel_rfl) (by kernel_rfl) (by kernel_rfl) rfl hS0 (fun i j v W W' _ h _ => h) ?_ ?_
  · intro i L vals W hi' hφ hS hL hd
    have hi2 : i < 13 := hi'
    clear hi'
    rcases (show i = 0 ∨ i = 1 ∨ i = 2 ∨ i = 3 ∨ i = 4 ∨ i = 5 ∨ i = 6 ∨ i = 7 ∨ i = 8 ∨ i = 9 ∨ i = 10 ∨ i = 11 ∨ i = 12 by omega) with rfl | rfl | rfl | rfl | rfl | rfl | rfl | rfl | rfl | rfl | rfl | rfl | rfl
    · have y0 := hS.cell mP (i := 0) rfl
      dsimp only at y0
      refine wpAt_of rfl rfl ?_
      simp only [frOf, Act.put]
      go_wp2_with fail
      first | exact ⟨trivial, rfl, trivial, hS⟩ | exact ⟨rfl, trivial, hS⟩ | exact ⟨trivial, rfl, trivial⟩ | exact ⟨rfl, trivial⟩ | exact rfl
    · have x0 := hS.cell mI (i := 0) rfl
      have x1 := hS.cell mI (i := 1) rfl
      have x2 := hS.cell mI (i := 2) rfl
      have x3 := hS.cell mI (i := 3) rfl
      have x4 := hS.cell mI (i := 4) rfl
      have x5 := hS.cell mI (i := 5) rfl
      have x6 := hS.cell mI (i := 6) rfl
      have x7 := hS.cell mI (i := 7) rfl
      dsimp only at x0 x1 x2 x3 x4 x5 x6 x7
      refine wpAt_of rfl rfl ?_
      simp only [frOf, Act.put]
      go_wp2_with fail
      first | exact ⟨trivial, rfl, trivial, hS⟩ | exact ⟨rfl, trivial, hS⟩ | exact ⟨trivial, rfl, trivial⟩ | exact ⟨rfl, trivial⟩ | exact rfl
    · have c0 := hS.cell mS (i := 0) rfl
      have c1 := hS.cell mS (i := 1) rfl
      have c2 := hS.cell mS (i := 2) rfl
      have c3 := hS.cell mS (i := 3) rfl
      dsimp only at c0 c1 c2 c3
      refine wpAt_of rfl rfl ?_
      simp only [frOf, Act.put]
      go_wp2_with fail
      first | exact ⟨trivial, rfl, trivial, hS⟩ | exact ⟨rfl, trivial, hS⟩ | exact ⟨trivial, rfl, trivial⟩ | exact ⟨rfl, trivial⟩ | exact rfl
    · have k0 : vals 0 = .agg #[.slice pa m pc] := hφ 0 (hd 0 (by decide))
      have k1 : vals 1 = .agg #[.int .i64 4, .int .i64 d, .int .i64 (ai : Int), .int .i64 (bi : Int), .int .i64 r, .int .i64 l, .int .i64 h, .int .i64 t] := hφ 1 (hd 1 (by decide))
      have k2 : vals 2 = .agg #[.bool true, .slice (some ⟨sb, off, none⟩) 4 cap, .int .i64 c, .int .i64 u] := hφ 2 (hd 2 (by decide))
      refine wpAt_of rfl rfl ?_
      simp only [frOf, Act.put]
      go_wp2_with fail
      refine (canI _ _ _ _ _ _ _ _ _ _ _ _ _ _ _ _ _ _ _ _ _ _ _ _ _ _ hm hN (by omega) (hP.next hS.below) (hC.next hS.below)).mono ?_
      rintro e W' ⟨rfl, hb⟩
      rw [g.out]
      go_wp2_with fail
      first | exact ⟨trivial, rfl, trivial, HX.next hb hS⟩ | exact ⟨rfl, trivial, HX.next hb hS⟩ | exact ⟨trivial, rfl, trivial⟩ | exact ⟨rfl, trivial⟩ | exact rfl
    · have k3 : vals 3 = .bool true := hφ 3 (hd 3 (by decide))
      refine wpAt_of rfl rfl ?_
      simp only [frOf, Act.put]
      go_wp2_with fail
      first | exact ⟨trivial, rfl, trivial, hS⟩ | exact ⟨rfl, trivial, hS⟩ | exact ⟨trivial, rfl, trivial⟩ | exact ⟨rfl, trivial⟩ | exact rfl
    · have k4 : vals 4 = .bool true := hφ 4 (hd 4 (by decide))
      have c0 := hS.cell mS (i := 0) rfl
      have c1 := hS.cell mS (i := 1) rfl
      have c2 := hS.cell mS (i := 2) rfl
      have c3 := hS.cell mS (i := 3) rfl
      dsimp only at c0 c1 c2 c3
      simp only [wpAt, List.getElem?_toArray, List.getElem?_cons_succ, List.getElem?_cons_zero, slotOf, frOf, Act.put]
      go_wp2_with fail
      first | exact ⟨trivial, rfl, trivial, hS⟩ | exact ⟨rfl, trivial, hS⟩ | exact ⟨trivial, rfl, trivial⟩ | exact ⟨rfl, trivial⟩ | exact rfl
    · have k4 : vals 4 = .bool true := hφ 4 (hd 4 (by decide))
      have k5 : vals 5 = .agg #[.bool true, .slice (some ⟨sb, off, none⟩) 4 cap, .int .i64 c, .int .i64 u] := hφ 5 (hd 5 (by decide))
      simp only [wpAt, List.getElem?_toArray, List.getElem?_cons_succ, List.getElem?_cons_zero, slotOf, frOf, Act.put]
      go_wp2_with fail
      refine (arrivalT _ _ _ _ _ _ _ _ _ (hC.next hS.below)).mono ?_
      rintro e W' ⟨rfl, hb⟩
      go_wp2_with fail
      first | exact ⟨trivial, rfl, trivial, HX.next hb hS⟩ | exact ⟨rfl, trivial, HX.next hb hS⟩ | exact ⟨trivial, rfl, trivial⟩ | exact ⟨rfl, trivial⟩ | exact rfl
    · have k4 : vals 4 = .bool true := hφ 4 (hd 4 (by decide))
      have y0 := hS.cell mP (i := 0) rfl
      dsimp only at y0
      simp only [wpAt, List.getElem?_toArray, List.getElem?_cons_succ, List.getElem?_cons_zero, slotOf, frOf, Act.put]
      go_wp2_with fail
      first | exact ⟨trivial, rfl, trivial, hS⟩ | exact ⟨rfl, trivial, hS⟩ | exact ⟨trivial, rfl, trivial⟩ | exact ⟨rfl, trivial⟩ | exact rfl
    · have k4 : vals 4 = .bool true := hφ 4 (hd 4 (by decide))
      have x0 := hS.cell mI (i := 0) rfl
      have x1 := hS.cell mI (i := 1) rfl
      have x2 := hS.cell mI (i := 2) rfl
      have x3 := hS.cell mI (i := 3) rfl
      have x4 := hS.cell mI (i := 4) rfl
      have x5 := hS.cell mI (i := 5) rfl
      have x6 := hS.cell mI (i := 6) rfl
      have x7 := hS.cell mI (i := 7) rfl
      dsimp only at x0 x1 x2 x3 x4 x5 x6 x7
      simp only [wpAt, List.getElem?_toArray, List.getElem?_cons_succ, List.getElem?_cons_zero, slotOf, frOf, Act.put]
      go_wp2_with fail
      first | exact ⟨trivial, rfl, trivial, hS⟩ | exact ⟨rfl, trivial, hS⟩ | exact ⟨trivial, rfl, trivial⟩ | exact ⟨rfl, trivial⟩ | exact rfl
    · have k4 : vals 4 = .bool true := hφ 4 (hd 4 (by decide))
      have k8 : vals 8 = .agg #[.int .i64 4, .int .i64 d, .int .i64 (ai : Int), .int .i64 (bi : Int), .int .i64 r, .int .i64 l, .int .i64 h, .int .i64 t] := hφ 8 (hd 8 (by decide))
      simp only [wpAt, List.getElem?_toArray, List.getElem?_cons_succ, List.getElem?_cons_zero, slotOf, frOf, Act.put]
      go_wp2_with fail
      refine (stepOfI_4 _ _ _ _ _ _ _ _ ).mono ?_
      rintro e W' ⟨rfl, hb⟩
      go_wp2_with fail
      first | exact ⟨trivial, rfl, trivial, HX.next hb hS⟩ | exact ⟨rfl, trivial, HX.next hb hS⟩ | exact ⟨trivial, rfl, trivial⟩ | exact ⟨rfl, trivial⟩ | exact rfl
    · have k4 : vals 4 = .bool true := hφ 4 (hd 4 (by decide))
      have k6 : vals 6 = .agg #[.bool true, .int .i64 (lo 0), .int .i64 (hi 0), .int .i64 (lo 1), .int .i64 (hi 1), .int .i64 (lo 2), .int .i64 (hi 2), .int .i64 (lo 3), .int .i64 (hi 3), .int .i64 c, .int .i64 u] := hφ 6 (hd 6 (by decide))
      have k7 : vals 7 = .agg #[.slice pa m pc] := hφ 7 (hd 7 (by decide))
      have k9 : vals 9 = .iface 160 (.agg #[.int .i64 4, .int .i64 d, .int .i64 (ai : Int), .int .i64 (bi : Int)]) := hφ 9 (hd 9 (by decide))
      simp only [wpAt, List.getElem?_toArray, List.getElem?_cons_succ, List.getElem?_cons_zero, slotOf, frOf, Act.put]
      go_wp2_with fail
      refine (mayI_reckon _ _ _ (arL true lo c) (arL true hi u) _ _ _ _ _ hai hbi).mono ?_
      rintro e W' ⟨rfl, hb⟩
      simp only [hv.out]
      go_wp2_with fail
      first | exact ⟨trivial, rfl, trivial, HX.next hb hS⟩ | exact ⟨rfl, trivial, HX.next hb hS⟩ | exact ⟨trivial, rfl, trivial⟩ | exact ⟨rfl, trivial⟩ | exact rfl
    · have k4 : vals 4 = .bool true := hφ 4 (hd 4 (by decide))
      have k10 : vals 10 = .bool q := hφ 10 (hd 10 (by decide))
      refine wpAt_of rfl rfl ?_
      simp only [frOf, Act.put]
      go_wp2_with fail
      first | exact ⟨trivial, rfl, trivial, hS⟩ | exact ⟨rfl, trivial, hS⟩ | exact ⟨trivial, rfl, trivial⟩ | exact ⟨rfl, trivial⟩ | exact rfl
    · have k11 : vals 11 = .bool q := hφ 11 (hd 11 (by decide))
      refine wpAt_of rfl rfl ?_
      simp only [frOf, Act.put]
      go_wp2_with fail
      first | exact ⟨trivial, rfl, trivial, hS⟩ | exact ⟨rfl, trivial, hS⟩ | exact ⟨trivial, rfl, trivial⟩ | exact ⟨rfl, trivial⟩ | exact rfl
  · intro L vals W hall hφ hS
    have k0 : vals 0 = .agg #[.slice pa m pc] := hφ 0 (by decide)
    have k1 : vals 1 = .agg #[.int .i64 4, .int .i64 d, .int .i64 (ai : Int), .int .i64 (bi : Int), .int .i64 r, .int .i64 l, .int .i64 h, .int .i64 t] := hφ 1 (by decide)
    have k2 : vals 2 = .agg #[.bool true, .slice (some ⟨sb, off, none⟩) 4 cap, .int .i64 c, .int .i64 u] := hφ 2 (by decide)
    have k3 : vals 3 = .bool true := hφ 3 (by decide)
    have k4 : vals 4 = .bool true := hφ 4 (by decide)
    have k5 : vals 5 = .agg #[.bool true, .slice (some ⟨sb, off, none⟩) 4 cap, .int .i64 c, .int .i64 u] := hφ 5 (by decide)
    have k6 : vals 6 = .agg #[.bool true, .int .i64 (lo 0), .int .i64 (hi 0), .int .i64 (lo 1), .int .i64 (hi 1), .int .i64 (lo 2), .int .i64 (hi 2), .int .i64 (lo 3), .int .i64 (hi 3), .int .i64 c, .int .i64 u] := hφ 6 (by decide)
    have k7 : vals 7 = .agg #[.slice pa m pc] := hφ 7 (by decide)
    have k8 : vals 8 = .agg #[.int .i64 4, .int .i64 d, .int .i64 (ai : Int), .int .i64 (bi : Int), .int .i64 r, .int .i64 l, .int .i64 h, .int .i64 t] := hφ 8 (by decide)
    have k9 : vals 9 = .iface 160 (.agg #[.int .i64 4, .int .i64 d, .int .i64 (ai : Int), .int .i64 (bi : Int)]) := hφ 9 (by decide)
    have k10 : vals 10 = .bool q := hφ 10 (by decide)
    have k11 : vals 11 = .bool q := hφ 11 (by decide)
    have k12 : vals 12 = .bool q := hφ 12 (by decide)
    simp only [frOf, Act.put, List.setIfInBounds_toArray, List.set_cons_succ, List.set_cons_zero, k0, k1, k2, k3, k4, k5, k6, k7, k8, k9, k10, k11, k12]
    clear k0 k1 k2 k3 k4 k5 k6 k7 k8 k9 k10 k11 k12 hall hφ hS0
    have H := hS.1
    go_wp2_with fail
    go_ret
    exact ⟨rfl, H.below⟩
set_option maxRecDepth 10000 in
set_option maxHeartbeats 8000000 in
theorem absFailsI_5 (pa : Option Addr) (pb po m pc : Nat) (P : Nat → Proc) (S : Nat → Spot) (d : Int) (ai bi : Nat) (r l h t : Int) (sb off cap : Nat) (lo hi : Nat → Int) (c u : Int) (w : World) (hm : m ≤ 1048576) (hN : ∀ i, i < m → (P i).n ≤ 1048576) (hP : ProcsAt pa pb po m P S w) (hC : BndsAt (some ⟨sb, off, none⟩) sb off 4 lo hi w) (hai : ai < 4) (hbi : bi < 4) (g : Hid (canStep P m 5 d ai bi r l h t true 4 lo hi c u = true)) :
    Calls Try.prog 37 #[.agg #[.slice pa m pc], .agg #[.int .i64 5, .int .i64 d, .int .i64 (ai : Int), .int .i64 (bi : Int), .int .i64 r, .int .i64 l, .int .i64 h, .int .i64 t], .agg #[.bool true, .slice (some ⟨sb, off, none⟩) 4 cap, .int .i64 c, .int .i64 u]] w fun e w' => e = .returned (.bool (failB 5 r ai bi t.toNat lo hi P)) ∧ Below w.heap.size w w' := by
  obtain ⟨q, hq'⟩ : ∃ q, failB 5 r ai bi t.toNat lo hi P = q := ⟨_, rfl⟩
  have hq : Hid (failB 5 r ai bi t.toNat lo hi P = q) := hq'
  clear hq'
  rw [hq.out]
  have hv : Hid (false = q) := (by rw [← hq.out]; simp [failB] : _ = _)
  have H : HeldL w [(w.heap.size + 1 + 1, [Value.bool true, .slice (some ⟨sb, off, none⟩) 4 cap, .int .i64 c, .int .i64 u]), (w.heap.size + 1, [Value.int .i64 5, .int .i64 d, .int .i64 (ai : Int), .int .i64 (bi : Int), .int .i64 r, .int .i64 l, .int .i64 h, .int .i64 t]), (w.heap.size, [Value.slice pa m pc])] (((w.alloc (.cells #[.slice pa m pc] 35)).alloc (.cells #[.int .i64 5, .int .i64 d, .int .i64 (ai : Int), .int .i64 (bi : Int), .int .i64 r, .int .i64 l, .int .i64 h, .int .i64 t] 72)).alloc (.cells #[.bool true, .slice (some ⟨sb, off, none⟩) 4 cap, .int .i64 c, .int .i64 u] 77)) := by
    have e1 : w.heap.size + 1 = (w.alloc (.cells #[.slice pa m pc] 35)).heap.size := by simp
    have e2 : w.heap.size + 1 + 1 = ((w.alloc (.cells #[.slice pa m pc] 35)).alloc (.cells #[.int .i64 5, .int .i64 d, .int .i64 (ai : Int), .int .i64 (bi : Int), .int .i64 r, .int .i64 l, .int .i64 h, .int .i64 t] 72)).heap.size := by simp
    rw [e2, e1]
    exact HeldL.newL (vs := [Value.bool true, .slice (some ⟨sb, off, none⟩) 4 cap, .int .i64 c, .int .i64 u]) (HeldL.newL (vs := [Value.int .i64 5, .int .i64 d, .int .i64 (ai : Int), .int .i64 (bi : Int), .int .i64 r, .int .i64 l, .int .i64 h, .int .i64 t]) (HeldL.newL (vs := [Value.slice pa m pc]) (HeldL.nil w)))
  obtain ⟨Lb, hLb⟩ : ∃ L, L = [(w.heap.size + 1 + 1, [Value.bool true, .slice (some ⟨sb, off, none⟩) 4 cap, .int .i64 c, .int .i64 u]), (w.heap.size + 1, [Value.int .i64 5, .int .i64 d, .int .i64 (ai : Int), .int .i64 (bi : Int), .int .i64 r, .int .i64 l, .int .i64 h, .int .i64 t]), (w.heap.size, [Value.slice pa m pc])] := ⟨_, rfl⟩
  have mP : (w.heap.size, [Value.slice pa m pc]) ∈ Lb := by rw [hLb]; simp
  have mI : (w.heap.size + 1, [Value.int .i64 5, .int .i64 d, .int .i64 (ai : Int), .int .i64 (bi : Int), .int .i64 r, .int .i64 l, .int .i64 h, .int .i64 t]) ∈ Lb := by rw [hLb]; simp
  have mS : (w.heap.size + 1 + 1, [Value.bool true, .slice (some ⟨sb, off, none⟩) 4 cap, .int .i64 c, .int .i64 u]) ∈ Lb := by rw [hLb]; simp
  rw [← hLb] at H
  clear hLb
  obtain ⟨V, hV⟩ : ∃ V, V = (((w.alloc (.cells #[.slice pa m pc] 35)).alloc (.cells #[.int .i64 5, .int .i64 d, .int .i64 (ai : Int), .int .i64 (bi : Int), .int .i64 r, .int .i64 l, .int .i64 h, .int .i64 t] 72)).alloc (.cells #[.bool true, .slice (some ⟨sb, off, none⟩) 4 cap, .int .i64 c, .int .i64 u] 77)) := ⟨_, rfl⟩
  rw [← hV] at H
  have hS0 : HX w V Lb V.drew := ⟨H.drew, (Below.refl _ V).drew⟩
  clear H
  go_enter Try.func37, Try.ntmps37
  go_wp2_with fail
  rw [← hV]
  clear hV
  refine region_inv3 [(0, 7), (1, 8), (2, 9), (3, 10), (4, 11), (5, 12), (6, 13), (7, 14), (8, 15), (9, 16), (10, 17), (11, 18), (12, 6)]
    (fun j v _ => match j with
      | 0 => Is (.agg #[.slice pa m pc]) v
      | 1 => Is (.agg #[.int .i64 5, .int .i64 d, .int .i64 (ai : Int), .int .i64 (bi : Int), .int .i64 r, .int .i64 l, .int .i64 h, .int .i64 t]) v
      | 2 => Is (.agg #[.bool true, .slice (some ⟨sb, off, none⟩) 4 cap, .int .i64 c, .int .i64 u]) v
      | 3 => Is (.bool true) v
      | 4 => Is (.bool true) v
      | 5 => Is (.agg #[.bool true, .slice (some ⟨sb, off, none⟩) 4 cap, .int .i64 c, .int .i64 u]) v
      | 6 => Is (.agg #[.bool true, .int .i64 (lo 0), .int .i64 (hi 0), .int .i64 (lo 1), .int .i64 (hi 1), .int .i64 (lo 2), .int .i64 (hi 2), .int .i64 (lo 3), .int .i64 (hi 3), .int .i64 c, .int .i64 u]) v
      | 7 => Is (.agg #[.slice pa m pc]) v
      | 8 => Is (.agg #[.int .i64 5, .int .i64 d, .int .i64 (ai : Int), .int .i64 (bi : Int), .int .i64 r, .int .i64 l, .int .i64 h, .int .i64 t]) v
      | 9 => Is (.iface 171 (.agg #[.int .i64 d, .int .i64 l, .int .i64 h])) v
      | 10 => Is (.bool q) v
      | 11 => Is (.bool q) v
      | 12 => Is (.bool q) v
      | _ => True)
    (fun _ W => HX w V Lb W) TT
    (by kernel_rfl) (by kernel_rfl) (by kernel_rfl) (by kernel_rfl) (by kernel_rfl) rfl hS0 (fun i j v W W' _ h _ => h) ?_ ?_
  · intro i L vals W hi' hφ hS hL hd
    have hi2 : i < 13 := hi'
    clear hi'
    rcases (show i = 0 ∨ i = 1 ∨ i = 2 ∨ i = 3 ∨ i = 4 ∨ i = 5 ∨ i = 6 ∨ i = 7 ∨ i = 8 ∨ i = 9 ∨ i = 10 ∨ i = 11 ∨ i = 12 by omega) with rfl | rfl | rfl | rfl | rfl | rfl | rfl | rfl | rfl | rfl | rfl | rfl | rfl
    · have y0 := hS.cell mP (i := 0) rfl
      dsimp only at y0
      refine wpAt_of rfl rfl ?_
      simp only [frOf, Act.put]
      go_wp2_with fail
      first | exact ⟨trivial, rfl, trivial, hS⟩ | exact ⟨rfl, trivial, hS⟩ | exact ⟨trivial, rfl, trivial⟩ | exact ⟨rfl, trivial⟩ | exact rfl
    · have x0 := hS.cell mI (i := 0) rfl
      have x1 := hS.cell mI (i := 1) rfl
      have x2 := hS.cell mI (i := 2) rfl
      have x3 := hS.cell mI (i := 3) rfl
      have x4 := hS.cell mI (i := 4) rfl
      have x5 := hS.cell mI (i := 5) rfl
      have x6 := hS.cell mI (i := 6) rfl
      have x7 := hS.cell mI (i := 7) rfl
      dsimp only at x0 x1 x2 x3 x4 x5 x6 x7
      refine wpAt_of rfl rfl ?_
      simp only [frOf, Act.put]
      go_wp2_with fail
      first | exact ⟨trivial, rfl, trivial, hS⟩ | exact ⟨rfl, trivial, hS⟩ | exact ⟨trivial, rfl, trivial⟩ | exact ⟨rfl, trivial⟩ | exact rfl
    · have c0 := hS.cell mS (i := 0) rfl
      have c1 := hS.cell mS (i := 1) rfl
      have c2 := hS.cell mS (i := 2) rfl
      have c3 := hS.cell mS (i := 3) rfl
      dsimp only at c0 c1 c2 c3
      refine wpAt_of rfl rfl ?_
      simp only [frOf, Act.put]
      go_wp2_with fail
      first | exact ⟨trivial, rfl, trivial, hS⟩ | exact ⟨rfl, trivial, hS⟩ | exact ⟨trivial, rfl, trivial⟩ | exact ⟨rfl, trivial⟩ | exact rfl
    · have k0 : vals 0 = .agg #[.slice pa m pc] := hφ 0 (hd 0 (by decide))
      have k1 : vals 1 = .agg #[.int .i64 5, .int .i64 d, .int .i64 (ai : Int), .int .i64 (bi : Int), .int .i64 r, .int .i64 l, .int .i64 h, .int .i64 t] := hφ 1 (hd 1 (by decide))
      have k2 : vals 2 = .agg #[.bool true, .slice (some ⟨sb, off, none⟩) 4 cap, .int .i64 c, .int .i64 u] := hφ 2 (hd 2 (by decide))
      refine wpAt_of rfl rfl ?_
      simp only [frOf, Act.put]
      go_wp2_with fail
      refine (canI _ _ _ _ _ _ _ _ _ _ _ _ _ _ _ _ _ _ _ _ _ _ _ _ _ _ hm hN (by omega) (hP.next hS.below) (hC.next hS.below)).mono ?_
      rintro e W' ⟨rfl, hb⟩
      rw [g.out]
      go_wp2_with fail
      first | exact ⟨trivial, rfl, trivial, HX.next hb hS⟩ | exact ⟨rfl, trivial, HX.next hb hS⟩ | exact ⟨trivial, rfl, trivial⟩ | exact ⟨rfl, trivial⟩ | exact rfl
    · have k3 : vals 3 = .bool true := hφ 3 (hd 3 (by decide))
      refine wpAt_of rfl rfl ?_
      simp only [frOf, Act.put]
      go_wp2_with fail
      first | exact ⟨trivial, rfl, trivial, hS⟩ | exact ⟨rfl, trivial, hS⟩ | exact ⟨trivial, rfl, trivial⟩ | exact ⟨rfl, trivial⟩ | exact rfl
    · have k4 : vals 4 = .bool true := hφ 4 (hd 4 (by decide))
      have c0 := hS.cell mS (i := 0) rfl
      have c1 := hS.cell mS (i := 1) rfl
      have c2 := hS.cell mS (i := 2) rfl
      have c3 := hS.cell mS (i := 3) rfl
      dsimp only at c0 c1 c2 c3
      simp only [wpAt, List.getElem?_toArray, List.getElem?_cons_succ, List.getElem?_cons_zero, slotOf, frOf, Act.put]
      go_wp2_with fail
      first | exact ⟨trivial, rfl, trivial, hS⟩ | exact ⟨rfl, trivial, hS⟩ | exact ⟨trivial, rfl, trivial⟩ | exact ⟨rfl, trivial⟩ | exact rfl
    · have k4 : vals 4 = .bool true := hφ 4 (hd 4 (by decide))
      have k5 : vals 5 = .agg #[.bool true, .slice (some ⟨sb, off, none⟩) 4 cap, .int .i64 c, .int .i64 u] := hφ 5 (hd 5 (by decide))
      simp only [wpAt, List.getElem?_toArray, List.getElem?_cons_succ, List.getElem?_cons_zero, slotOf, frOf, Act.put]
      go_wp2_with fail
      refine (arrivalT _ _ _ _ _ _ _ _ _ (hC.next hS.below)).mono ?_
      rintro e W' ⟨rfl, hb⟩
      go_wp2_with fail
      first | exact ⟨trivial, rfl, trivial, HX.next hb hS⟩ | exact ⟨rfl, trivial, HX.next hb hS⟩ | exact ⟨trivial, rfl, trivial⟩ | exact ⟨rfl, trivial⟩ | exact rfl
    · have k4 : vals 4 = .bool true := hφ 4 (hd 4 (by decide))
      have y0 := hS.cell mP (i := 0) rfl
      dsimp only at y0
      simp only [wpAt, List.getElem?_toArray, List.getElem?_cons_succ, List.getElem?_cons_zero, slotOf, frOf, Act.put]
      go_wp2_with fail
      first | exact ⟨trivial, rfl, trivial, hS⟩ | exact ⟨rfl, trivial, hS⟩ | exact ⟨trivial, rfl, trivial⟩ | exact ⟨rfl, trivial⟩ | exact rfl
    · have k4 : vals 4 = .bool true := hφ 4 (hd 4 (by decide))
      have x0 := hS.cell mI (i := 0) rfl
      have x1 := hS.cell mI (i := 1) rfl
      have x2 := hS.cell mI (i := 2) rfl
      have x3 := hS.cell mI (i := 3) rfl
      have x4 := hS.cell mI (i := 4) rfl
      have x5 := hS.cell mI (i := 5) rfl
      have x6 := hS.cell mI (i := 6) rfl
      have x7 := hS.cell mI (i := 7) rfl
      dsimp only at x0 x1 x2 x3 x4 x5 x6 x7
      simp only [wpAt, List.getElem?_toArray, List.getElem?_cons_succ, List.getElem?_cons_zero, slotOf, frOf, Act.put]
      go_wp2_with fail
      first | exact ⟨trivial, rfl, trivial, hS⟩ | exact ⟨rfl, trivial, hS⟩ | exact ⟨trivial, rfl, trivial⟩ | exact ⟨rfl, trivial⟩ | exact rfl
    · have k4 : vals 4 = .bool true := hφ 4 (hd 4 (by decide))
      have k8 : vals 8 = .agg #[.int .i64 5, .int .i64 d, .int .i64 (ai : Int), .int .i64 (bi : Int), .int .i64 r, .int .i64 l, .int .i64 h, .int .i64 t] := hφ 8 (hd 8 (by decide))
      simp only [wpAt, List.getElem?_toArray, List.getElem?_cons_succ, List.getElem?_cons_zero, slotOf, frOf, Act.put]
      go_wp2_with fail
      refine (stepOfI_5 _ _ _ _ _ _ _ _ ).mono ?_
      rintro e W' ⟨rfl, hb⟩
      go_wp2_with fail
      first | exact ⟨trivial, rfl, trivial, HX.next hb hS⟩ | exact ⟨rfl, trivial, HX.next hb hS⟩ | exact ⟨trivial, rfl, trivial⟩ | exact ⟨rfl, trivial⟩ | exact rfl
    · have k4 : vals 4 = .bool true := hφ 4 (hd 4 (by decide))
      have k6 : vals 6 = .agg #[.bool true, .int .i64 (lo 0), .int .i64 (hi 0), .int .i64 (lo 1), .int .i64 (hi 1), .int .i64 (lo 2), .int .i64 (hi 2), .int .i64 (lo 3), .int .i64 (hi 3), .int .i64 c, .int .i64 u] := hφ 6 (hd 6 (by decide))
      have k7 : vals 7 = .agg #[.slice pa m pc] := hφ 7 (hd 7 (by decide))
      have k9 : vals 9 = .iface 171 (.agg #[.int .i64 d, .int .i64 l, .int .i64 h]) := hφ 9 (hd 9 (by decide))
      simp only [wpAt, List.getElem?_toArray, List.getElem?_cons_succ, List.getElem?_cons_zero, slotOf, frOf, Act.put]
      go_wp2_with fail
      refine (mayI_any _ _ _ (arL true lo c) (arL true hi u) _ _ _ _ ).mono ?_
      rintro e W' ⟨rfl, hb⟩
      simp only [hv.out]
      go_wp2_with fail
      first | exact ⟨trivial, rfl, trivial, HX.next hb hS⟩ | exact ⟨rfl, trivial, HX.next hb hS⟩ | exact ⟨trivial, rfl, trivial⟩ | exact ⟨rfl, trivial⟩ | exact rfl
    · have k4 : vals 4 = .bool true := hφ 4 (hd 4 (by decide))
      have k10 : vals 10 = .bool q := hφ 10 (hd 10 (by decide))
      refine wpAt_of rfl rfl ?_
      simp only [frOf, Act.put]
      go_wp2_with fail
      first | exact ⟨trivial, rfl, trivial, hS⟩ | exact ⟨rfl, trivial, hS⟩ | exact ⟨trivial, rfl, trivial⟩ | exact ⟨rfl, trivial⟩ | exact rfl
    · have k11 : vals 11 = .bool q := hφ 11 (hd 11 (by decide))
      refine wpAt_of rfl rfl ?_
      simp only [frOf, Act.put]
      go_wp2_with fail
      first | exact ⟨trivial, rfl, trivial, hS⟩ | exact ⟨rfl, trivial, hS⟩ | exact ⟨trivial, rfl, trivial⟩ | exact ⟨rfl, trivial⟩ | exact rfl
  · intro L vals W hall hφ hS
    have k0 : vals 0 = .agg #[.slice pa m pc] := hφ 0 (by decide)
    have k1 : vals 1 = .agg #[.int .i64 5, .int .i64 d, .int .i64 (ai : Int), .int .i64 (bi : Int), .int .i64 r, .int .i64 l, .int .i64 h, .int .i64 t] := hφ 1 (by decide)
    have k2 : vals 2 = .agg #[.bool true, .slice (some ⟨sb, off, none⟩) 4 cap, .int .i64 c, .int .i64 u] := hφ 2 (by decide)
    have k3 : vals 3 = .bool true := hφ 3 (by decide)
    have k4 : vals 4 = .bool true := hφ 4 (by decide)
    have k5 : vals 5 = .agg #[.bool true, .slice (some ⟨sb, off, none⟩) 4 cap, .int .i64 c, .int .i64 u] := hφ 5 (by decide)
    have k6 : vals 6 = .agg #[.bool true, .int .i64 (lo 0), .int .i64 (hi 0), .int .i64 (lo 1), .int .i64 (hi 1), .int .i64 (lo 2), .int .i64 (hi 2), .int .i64 (lo 3), .int .i64 (hi 3), .int .i64 c, .int .i64 u] := hφ 6 (by decide)
    have k7 : vals 7 = .agg #[.slice pa m pc] := hφ 7 (by decide)
    have k8 : vals 8 = .agg #[.int .i64 5, .int .i64 d, .int .i64 (ai : Int), .int .i64 (bi : Int), .int .i64 r, .int .i64 l, .int .i64 h, .int .i64 t] := hφ 8 (by decide)
    have k9 : vals 9 = .iface 171 (.agg #[.int .i64 d, .int .i64 l, .int .i64 h]) := hφ 9 (by decide)
    have k10 : vals 10 = .bool q := hφ 10 (by decide)
    have k11 : vals 11 = .bool q := hφ 11 (by decide)
    have k12 : vals 12 = .bool q := hφ 12 (by decide)
    simp only [frOf, Act.put, List.setIfInBounds_toArray, List.set_cons_succ, List.set_cons_zero, k0, k1, k2, k3, k4, k5, k6, k7, k8, k9, k10, k11, k12]
    clear k0 k1 k2 k3 k4 k5 k6 k7 k8 k9 k10 k11 k12 hall hφ hS0
    have H := hS.1
    go_wp2_with fail
    go_ret
    exact ⟨rfl, H.below⟩
set_option maxRecDepth 10000 in
set_option maxHeartbeats 8000000 in
theorem absFailsI_6 (pa : Option Addr) (pb po m pc : Nat) (P : Nat → Proc) (S : Nat → Spot) (d : Int) (ai bi : Nat) (r l h t : Int) (sb off cap : Nat) (lo hi : Nat → Int) (c u : Int) (w : World) (hm : m ≤ 1048576) (hN : ∀ i, i < m → (P i).n ≤ 1048576) (hP : ProcsAt pa pb po m P S w) (hC : BndsAt (some ⟨sb, off, none⟩) sb off 4 lo hi w) (hai : ai < 4) (hbi : bi < 4) (g : Hid (canStep P m 6 d ai bi r l h t true 4 lo hi c u = true)) :
    Calls Try.prog 37 #[.agg #[.slice pa m pc], .agg #[.int .i64 6, .int .i64 d, .int .i64 (ai : Int), .int .i64 (bi : Int), .int .i64 r, .int .i64 l, .int .i64 h, .int .i64 t], .agg #[.bool true, .slice (some ⟨sb, off, none⟩) 4 cap, .int .i64 c, .int .i64 u]] w fun e w' => e = .returned (.bool (failB 6 r ai bi t.toNat lo hi P)) ∧ Below w.heap.size w w' := by
  obtain ⟨q, hq'⟩ : ∃ q, failB 6 r ai bi t.toNat lo hi P = q := ⟨_, rfl⟩
  have hq : Hid (failB 6 r ai bi t.toNat lo hi P = q) := hq'
  clear hq'
  rw [hq.out]
  have hv : Hid ((!itvIn (arL true lo c ai) (arL true hi u ai) 0 3) = q) := (by rw [← hq.out]; simp [failB, arL, hai] : _ = _)
  have H : HeldL w [(w.heap.size + 1 + 1, [Value.bool true, .slice (some ⟨sb, off, none⟩) 4 cap, .int .i64 c, .int .i64 u]), (w.heap.size + 1, [Value.int .i64 6, .int .i64 d, .int .i64 (ai : Int), .int .i64 (bi : Int), .int .i64 r, .int .i64 l, .int .i64 h, .int .i64 t]), (w.heap.size, [Value.slice pa m pc])] (((w.alloc (.cells #[.slice pa m pc] 35)).alloc (.cells #[.int .i64 6, .int .i64 d, .int .i64 (ai : Int), .int .i64 (bi : Int), .int .i64 r, .int .i64 l, .int .i64 h, .int .i64 t] 72)).alloc (.cells #[.bool true, .slice (some ⟨sb, off, none⟩) 4 cap, .int .i64 c, .int .i64 u] 77)) := by
    have e1 : w.heap.size + 1 = (w.alloc (.cells #[.slice pa m pc] 35)).heap.size := by simp
    have e2 : w.heap.size + 1 + 1 = ((w.alloc (.cells #[.slice pa m pc] 35)).alloc (.cells #[.int .i64 6, .int .i64 d, .int .i64 (ai : Int), .int .i64 (bi : Int), .int .i64 r, .int .i64 l, .int .i64 h, .int .i64 t] 72)).heap.size := by simp
    rw [e2, e1]
    exact HeldL.newL (vs := [Value.bool true, .slice (some ⟨sb, off, none⟩) 4 cap, .int .i64 c, .int .i64 u]) (HeldL.newL (vs := [Value.int .i64 6, .int .i64 d, .int .i64 (ai : Int), .int .i64 (bi : Int), .int .i64 r, .int .i64 l, .int .i64 h, .int .i64 t]) (HeldL.newL (vs := [Value.slice pa m pc]) (HeldL.nil w)))
  obtain ⟨Lb, hLb⟩ : ∃ L, L = [(w.heap.size + 1 + 1, [Value.bool true, .slice (some ⟨sb, off, none⟩) 4 cap, .int .i64 c, .int .i64 u]), (w.heap.size + 1, [Value.int .i64 6, .int .i64 d, .int .i64 (ai : Int), .int .i64 (bi : Int), .int .i64 r, .int .i64 l, .int .i64 h, .int .i64 t]), (w.heap.size, [Value.slice pa m pc])] := ⟨_, rfl⟩
  have mP : (w.heap.size, [Value.slice pa m pc]) ∈ Lb := by rw [hLb]; simp
  have mI : (w.heap.size + 1, [Value.int .i64 6, .int .i64 d, .int .i64 (ai : Int), .int .i64 (bi : Int), .int .i64 r, .int .i64 l, .int .i64 h, .int .i64 t]) ∈ Lb := by rw [hLb]; simp
  have mS : (w.heap.size + 1 + 1, [Value.bool true, .slice (some ⟨sb, off, none⟩) 4 cap, .int .i64 c, .int .i64 u]) ∈ Lb := by rw [hLb]; simp
  rw [← hLb] at H
  clear hLb
  obtain ⟨V, hV⟩ : ∃ V, V = (((w.alloc (.cells #[.slice pa m pc] 35)).alloc (.cells #[.int .i64 6, .int .i64 d, .int .i64 (ai : Int), .int .i64 (bi : Int), .int .i64 r, .int .i64 l, .int .i64 h, .int .i64 t] 72)).alloc (.cells #[.bool true, .slice (some ⟨sb, off, none⟩) 4 cap, .int .i64 c, .int .i64 u] 77)) := ⟨_, rfl⟩
  rw [← hV] at H
  have hS0 : HX w V Lb V.drew := ⟨H.drew, (Below.refl _ V).drew⟩
  clear H
  go_enter Try.func37, Try.ntmps37
  go_wp2_with fail
  rw [← hV]
  clear hV
  refine region_inv3 [(0, 7), (1, 8), (2, 9), (3, 10), (4, 11), (5, 12), (6, 13), (7, 14), (8, 15), (9, 16), (10, 17), (11, 18), (12, 6)]
    (fun j v _ => match j with
      | 0 => Is (.agg #[.slice pa m pc]) v
      | 1 => Is (.agg #[.int .i64 6, .int .i64 d, .int .i64 (ai : Int), .int .i64 (bi : Int), .int .i64 r, .int .i64 l, .int .i64 h, .int .i64 t]) v
      | 2 => Is (.agg #[.bool true, .slice (some ⟨sb, off, none⟩) 4 cap, .int .i64 c, .int .i64 u]) v
      | 3 => Is (.bool true) v
      | 4 => Is (.bool true) v
      | 5 => Is (.agg #[.bool true, .slice (some ⟨sb, off, none⟩) 4 cap, .int .i64 c, .int .i64 u]) v
      | 6 => Is (.agg #[.bool true, .int .i64 (lo 0), .int .i64 (hi 0), .int .i64 (lo 1), .int .i64 (hi 1), .int .i64 (lo 2), .int .i64 (hi 2), .int .i64 (lo 3), .int .i64 (hi 3), .int .i64 c, .int .i64 u]) v
      | 7 => Is (.agg #[.slice pa m pc]) v
      | 8 => Is (.agg #[.int .i64 6, .int .i64 d, .int .i64 (ai : Int), .int .i64 (bi : Int), .int .i64 r, .int .i64 l, .int .i64 h, .int .i64 t]) v
      | 9 => Is (.iface 162 (.agg #[.int .i64 d, .int .i64 (ai : Int)])) v
      | 10 => Is (.bool q) v
      | 11 => Is (.bool q) v
      | 12 => Is (.bool q) v
      | _ => True)
    (fun _ W => HX w V Lb W) TT
    (by kernel_rfl) (by kernel_rfl) (by kernel_rfl) (by kernel_rfl) (by kernel_rfl) rfl hS0 (fun i j v W W' _ h _ => h) ?_ ?_
  · intro i L vals W hi' hφ hS hL hd
    have hi2 : i < 13 := hi'
    clear hi'
    rcases (show i = 0 ∨ i = 1 ∨ i = 2 ∨ i = 3 ∨ i = 4 ∨ i = 5 ∨ i = 6 ∨ i = 7 ∨ i = 8 ∨ i = 9 ∨ i = 10 ∨ i = 11 ∨ i = 12 by omega) with rfl | rfl | rfl | rfl | rfl | rfl | rfl | rfl | rfl | rfl | rfl | rfl | rfl
    · have y0 := hS.cell mP (i := 0) rfl
      dsimp only at y0
      refine wpAt_of rfl rfl ?_
      simp only [frOf, Act.put]
      go_wp2_with fail
      first | exact ⟨trivial, rfl, trivial, hS⟩ | exact ⟨rfl, trivial, hS⟩ | exact ⟨trivial, rfl, trivial⟩ | exact ⟨rfl, trivial⟩ | exact rfl
    · have x0 := hS.cell mI (i := 0) rfl
      have x1 := hS.cell mI (i := 1) rfl
      have x2 := hS.cell mI (i := 2) rfl
      have x3 := hS.cell mI (i := 3) rfl
      have x4 := hS.cell mI (i := 4) rfl
      have x5 := hS.cell mI (i := 5) rfl
      have x6 := hS.cell mI (i := 6) rfl
      have x7 := hS.cell mI (i := 7) rfl
      dsimp only at x0 x1 x2 x3 x4 x5 x6 x7
      refine wpAt_of rfl rfl ?_
      simp only [frOf, Act.put]
      go_wp2_with fail
      first | exact ⟨trivial, rfl, trivial, hS⟩ | exact ⟨rfl, trivial, hS⟩ | exact ⟨trivial, rfl, trivial⟩ | exact ⟨rfl, trivial⟩ | exact rfl
    · have c0 := hS.cell mS (i := 0) rfl
      have c1 := hS.cell mS (i := 1) rfl
      have c2 := hS.cell mS (i := 2) rfl
      have c3 := hS.cell mS (i := 3) rfl
      dsimp only at c0 c1 c2 c3
      refine wpAt_of rfl rfl ?_
      simp only [frOf, Act.put]
      go_wp2_with fail
      first | exact ⟨trivial, rfl, trivial, hS⟩ | exact ⟨rfl, trivial, hS⟩ | exact ⟨trivial, rfl, trivial⟩ | exact ⟨rfl, trivial⟩ | exact rfl
    · have k0 : vals 0 = .agg #[.slice pa m pc] := hφ 0 (hd 0 (by decide))
      have k1 : vals 1 = .agg #[.int .i64 6, .int .i64 d, .int .i64 (ai : Int), .int .i64 (bi : Int), .int .i64 r, .int .i64 l, .int .i64 h, .int .i64 t] := hφ 1 (hd 1 (by decide))
      have k2 : vals 2 = .agg #[.bool true, .slice (some ⟨sb, off, none⟩) 4 cap, .int .i64 c, .int .i64 u] := hφ 2 (hd 2 (by decide))
      refine wpAt_of rfl rfl ?_
      simp only [frOf, Act.put]
      go_wp2_with fail
      refine (canI _ _ _ _ _ _ _ _ _ _ _ _ _ _ _ _ _ _ _ _ _ _ _ _ _ _ hm hN (by omega) (hP.next hS.below) (hC.next hS.below)).mono ?_
      rintro e W' ⟨rfl, hb⟩
      rw [g.out]
      go_wp2_with fail
      first | exact ⟨trivial, rfl, trivial, HX.next hb hS⟩ | exact ⟨rfl, trivial, HX.next hb hS⟩ | exact ⟨trivial, rfl, trivial⟩ | exact ⟨rfl, trivial⟩ | exact rfl
    · have k3 : vals 3 = .bool true := hφ 3 (hd 3 (by decide))
      refine wpAt_of rfl rfl ?_
      simp only [frOf, Act.put]
      go_wp2_with fail
      first | exact ⟨trivial, rfl, trivial, hS⟩ | exact ⟨rfl, trivial, hS⟩ | exact ⟨trivial, rfl, trivial⟩ | exact ⟨rfl, trivial⟩ | exact rfl
    · have k4 : vals 4 = .bool true := hφ 4 (hd 4 (by decide))
      have c0 := hS.cell mS (i := 0) rfl
      have c1 := hS.cell mS (i := 1) rfl
      have c2 := hS.cell mS (i := 2) rfl
      have c3 := hS.cell mS (i := 3) rfl
      dsimp only at c0 c1 c2 c3
      simp only [wpAt, List.getElem?_toArray, List.getElem?_cons_succ, List.getElem?_cons_zero, slotOf, frOf, Act.put]
      go_wp2_with fail
      first | exact ⟨trivial, rfl, trivial, hS⟩ | exact ⟨rfl, trivial, hS⟩ | exact ⟨trivial, rfl, trivial⟩ | exact ⟨rfl, trivial⟩ | exact rfl
    · have k4 : vals 4 = .bool true := hφ 4 (hd 4 (by decide))
      have k5 : vals 5 = .agg #[.bool true, .slice (some ⟨sb, off, none⟩) 4 cap, .int .i64 c, .int .i64 u] := hφ 5 (hd 5 (by decide))
      simp only [wpAt, List.getElem?_toArray, List.getElem?_cons_succ, List.getElem?_cons_zero, slotOf, frOf, Act.put]
      go_wp2_with fail
      refine (arrivalT _ _ _ _ _ _ _ _ _ (hC.next hS.below)).mono ?_
      rintro e W' ⟨rfl, hb⟩
      go_wp2_with fail
      first | exact ⟨trivial, rfl, trivial, HX.next hb hS⟩ | exact ⟨rfl, trivial, HX.next hb hS⟩ | exact ⟨trivial, rfl, trivial⟩ | exact ⟨rfl, trivial⟩ | exact rfl
    · have k4 : vals 4 = .bool true := hφ 4 (hd 4 (by decide))
      have y0 := hS.cell mP (i := 0) rfl
      dsimp only at y0
      simp only [wpAt, List.getElem?_toArray, List.getElem?_cons_succ, List.getElem?_cons_zero, slotOf, frOf, Act.put]
      go_wp2_with fail
      first | exact ⟨trivial, rfl, trivial, hS⟩ | exact ⟨rfl, trivial, hS⟩ | exact ⟨trivial, rfl, trivial⟩ | exact ⟨rfl, trivial⟩ | exact rfl
    · have k4 : vals 4 = .bool true := hφ 4 (hd 4 (by decide))
      have x0 := hS.cell mI (i := 0) rfl
      have x1 := hS.cell mI (i := 1) rfl
      have x2 := hS.cell mI (i := 2) rfl
      have x3 := hS.cell mI (i := 3) rfl
      have x4 := hS.cell mI (i := 4) rfl
      have x5 := hS.cell mI (i := 5) rfl
      have x6 := hS.cell mI (i := 6) rfl
      have x7 := hS.cell mI (i := 7) rfl
      dsimp only at x0 x1 x2 x3 x4 x5 x6 x7
      simp only [wpAt, List.getElem?_toArray, List.getElem?_cons_succ, List.getElem?_cons_zero, slotOf, frOf, Act.put]
      go_wp2_with fail
      first | exact ⟨trivial, rfl, trivial, hS⟩ | exact ⟨rfl, trivial, hS⟩ | exact ⟨trivial, rfl, trivial⟩ | exact ⟨rfl, trivial⟩ | exact rfl
    · have k4 : vals 4 = .bool true := hφ 4 (hd 4 (by decide))
      have k8 : vals 8 = .agg #[.int .i64 6, .int .i64 d, .int .i64 (ai : Int), .int .i64 (bi : Int), .int .i64 r, .int .i64 l, .int .i64 h, .int .i64 t] := hφ 8 (hd 8 (by decide))
      simp only [wpAt, List.getElem?_toArray, List.getElem?_cons_succ, List.getElem?_cons_zero, slotOf, frOf, Act.put]
      go_wp2_with fail
      refine (stepOfI_6 _ _ _ _ _ _ _ _ ).mono ?_
      rintro e W' ⟨rfl, hb⟩
      go_wp2_with fail
      first | exact ⟨trivial, rfl, trivial, HX.next hb hS⟩ | exact ⟨rfl, trivial, HX.next hb hS⟩ | exact ⟨trivial, rfl, trivial⟩ | exact ⟨rfl, trivial⟩ | exact rfl
    · have k4 : vals 4 = .bool true := hφ 4 (hd 4 (by decide))
      have k6 : vals 6 = .agg #[.bool true, .int .i64 (lo 0), .int .i64 (hi 0), .int .i64 (lo 1), .int .i64 (hi 1), .int .i64 (lo 2), .int .i64 (hi 2), .int .i64 (lo 3), .int .i64 (hi 3), .int .i64 c, .int .i64 u] := hφ 6 (hd 6 (by decide))
      have k7 : vals 7 = .agg #[.slice pa m pc] := hφ 7 (hd 7 (by decide))
      have k9 : vals 9 = .iface 162 (.agg #[.int .i64 d, .int .i64 (ai : Int)]) := hφ 9 (hd 9 (by decide))
      simp only [wpAt, List.getElem?_toArray, List.getElem?_cons_succ, List.getElem?_cons_zero, slotOf, frOf, Act.put]
      go_wp2_with fail
      refine (mayI_load _ _ _ (arL true lo c) (arL true hi u) _ _ _ hai).mono ?_
      rintro e W' ⟨rfl, hb⟩
      simp only [hv.out]
      go_wp2_with fail
      first | exact ⟨trivial, rfl, trivial, HX.next hb hS⟩ | exact ⟨rfl, trivial, HX.next hb hS⟩ | exact ⟨trivial, rfl, trivial⟩ | exact ⟨rfl, trivial⟩ | exact rfl
    · have k4 : vals 4 = .bool true := hφ 4 (hd 4 (by decide))
      have k10 : vals 10 = .bool q := hφ 10 (hd 10 (by decide))
      refine wpAt_of rfl rfl ?_
      simp only [frOf, Act.put]
      go_wp2_with fail
      first | exact ⟨trivial, rfl, trivial, hS⟩ | exact ⟨rfl, trivial, hS⟩ | exact ⟨trivial, rfl, trivial⟩ | exact ⟨rfl, trivial⟩ | exact rfl
    · have k11 : vals 11 = .bool q := hφ 11 (hd 11 (by decide))
      refine wpAt_of rfl rfl ?_
      simp only [frOf, Act.put]
      go_wp2_with fail
      first | exact ⟨trivial, rfl, trivial, hS⟩ | exact ⟨rfl, trivial, hS⟩ | exact ⟨trivial, rfl, trivial⟩ | exact ⟨rfl, trivial⟩ | exact rfl
  · intro L vals W hall hφ hS
    have k0 : vals 0 = .agg #[.slice pa m pc] := hφ 0 (by decide)
    have k1 : vals 1 = .agg #[.int .i64 6, .int .i64 d, .int .i64 (ai : Int), .int .i64 (bi : Int), .int .i64 r, .int .i64 l, .int .i64 h, .int .i64 t] := hφ 1 (by decide)
    have k2 : vals 2 = .agg #[.bool true, .slice (some ⟨sb, off, none⟩) 4 cap, .int .i64 c, .int .i64 u] := hφ 2 (by decide)
    have k3 : vals 3 = .bool true := hφ 3 (by decide)
    have k4 : vals 4 = .bool true := hφ 4 (by decide)
    have k5 : vals 5 = .agg #[.bool true, .slice (some ⟨sb, off, none⟩) 4 cap, .int .i64 c, .int .i64 u] := hφ 5 (by decide)
    have k6 : vals 6 = .agg #[.bool true, .int .i64 (lo 0), .int .i64 (hi 0), .int .i64 (lo 1), .int .i64 (hi 1), .int .i64 (lo 2), .int .i64 (hi 2), .int .i64 (lo 3), .int .i64 (hi 3), .int .i64 c, .int .i64 u] := hφ 6 (by decide)
    have k7 : vals 7 = .agg #[.slice pa m pc] := hφ 7 (by decide)
    have k8 : vals 8 = .agg #[.int .i64 6, .int .i64 d, .int .i64 (ai : Int), .int .i64 (bi : Int), .int .i64 r, .int .i64 l, .int .i64 h, .int .i64 t] := hφ 8 (by decide)
    have k9 : vals 9 = .iface 162 (.agg #[.int .i64 d, .int .i64 (ai : Int)]) := hφ 9 (by decide)
    have k10 : vals 10 = .bool q := hφ 10 (by decide)
    have k11 : vals 11 = .bool q := hφ 11 (by decide)
    have k12 : vals 12 = .bool q := hφ 12 (by decide)
    simp only [frOf, Act.put, List.setIfInBounds_toArray, List.set_cons_succ, List.set_cons_zero, k0, k1, k2, k3, k4, k5, k6, k7, k8, k9, k10, k11, k12]
    clear k0 k1 k2 k3 k4 k5 k6 k7 k8 k9 k10 k11 k12 hall hφ hS0
    have H := hS.1
    go_wp2_with fail
    go_ret
    exact ⟨rfl, H.below⟩
set_option maxRecDepth 10000 in
set_option maxHeartbeats 8000000 in
theorem absFailsI_7 (pa : Option Addr) (pb po m pc : Nat) (P : Nat → Proc) (S : Nat → Spot) (d : Int) (ai bi : Nat) (r l h t : Int) (sb off cap : Nat) (lo hi : Nat → Int) (c u : Int) (w : World) (hm : m ≤ 1048576) (hN : ∀ i, i < m → (P i).n ≤ 1048576) (hP : ProcsAt pa pb po m P S w) (hC : BndsAt (some ⟨sb, off, none⟩) sb off 4 lo hi w) (hai : ai < 4) (hbi : bi < 4) (g : Hid (canStep P m 7 d ai bi r l h t true 4 lo hi c u = true)) :
    Calls Try.prog 37 #[.agg #[.slice pa m pc], .agg #[.int .i64 7, .int .i64 d, .int .i64 (ai : Int), .int .i64 (bi : Int), .int .i64 r, .int .i64 l, .int .i64 h, .int .i64 t], .agg #[.bool true, .slice (some ⟨sb, off, none⟩) 4 cap, .int .i64 c, .int .i64 u]] w fun e w' => e = .returned (.bool (failB 7 r ai bi t.toNat lo hi P)) ∧ Below w.heap.size w w' := by
  obtain ⟨q, hq'⟩ : ∃ q, failB 7 r ai bi t.toNat lo hi P = q := ⟨_, rfl⟩
  have hq : Hid (failB 7 r ai bi t.toNat lo hi P = q) := hq'
  clear hq'
  rw [hq.out]
  have hv : Hid ((!itvIn (arL true lo c ai) (arL true hi u ai) 0 3) = q) := (by rw [← hq.out]; simp [failB, arL, hai] : _ = _)
  have H : HeldL w [(w.heap.size + 1 + 1, [Value.bool true, .slice (some ⟨sb, off, none⟩) 4 cap, .int .i64 c, .int .i64 u]), (w.heap.size + 1, [Value.int .i64 7, .int .i64 d, .int .i64 (ai : Int), .int .i64 (bi : Int), .int .i64 r, .int .i64 l, .int .i64 h, .int .i64 t]), (w.heap.size, [Value.slice pa m pc])] (((w.alloc (.cells #[.slice pa m pc] 35)).alloc (.cells #[.int .i64 7, .int .i64 d, .int .i64 (ai : Int), .int .i64 (bi : Int), .int .i64 r, .int .i64 l, .int .i64 h, .int .i64 t] 72)).alloc (.cells #[.bool true, .slice (some ⟨sb, off, none⟩) 4 cap, .int .i64 c, .int .i64 u] 77)) := by
    have e1 : w.heap.size + 1 = (w.alloc (.cells #[.slice pa m pc] 35)).heap.size := by simp
    have e2 : w.heap.size + 1 + 1 = ((w.alloc (.cells #[.slice pa m pc] 35)).alloc (.cells #[.int .i64 7, .int .i64 d, .int .i64 (ai : Int), .int .i64 (bi : Int), .int .i64 r, .int .i64 l, .int .i64 h, .int .i64 t] 72)).heap.size := by simp
    rw [e2, e1]
    exact HeldL.newL (vs := [Value.bool true, .slice (some ⟨sb, off, none⟩) 4 cap, .int .i64 c, .int .i64 u]) (HeldL.newL (vs := [Value.int .i64 7, .int .i64 d, .int .i64 (ai : Int), .int .i64 (bi : Int), .int .i64 r, .int .i64 l, .int .i64 h, .int .i64 t]) (HeldL.newL (vs := [Value.slice pa m pc]) (HeldL.nil w)))
  obtain ⟨Lb, hLb⟩ : ∃ L, L = [(w.heap.size + 1 + 1, [Value.bool true, .slice (some ⟨sb, off, none⟩) 4 cap, .int .i64 c, .int .i64 u]), (w.heap.size + 1, [Value.int .i64 7, .int .i64 d, .int .i64 (ai : Int), .int .i64 (bi : Int), .int .i64 r, .int .i64 l, .int .i64 h, .int .i64 t]), (w.heap.size, [Value.slice pa m pc])] := ⟨_, rfl⟩
  have mP : (w.heap.size, [Value.slice pa m pc]) ∈ Lb := by rw [hLb]; simp
  have mI : (w.heap.size + 1, [Value.int .i64 7, .int .i64 d, .int .i64 (ai : Int), .int .i64 (bi : Int), .int .i64 r, .int .i64 l, .int .i64 h, .int .i64 t]) ∈ Lb := by rw [hLb]; simp
  have mS : (w.heap.size + 1 + 1, [Value.bool true, .slice (some ⟨sb, off, none⟩) 4 cap, .int .i64 c, .int .i64 u]) ∈ Lb := by rw [hLb]; simp
  rw [← hLb] at H
  clear hLb
  obtain ⟨V, hV⟩ : ∃ V, V = (((w.alloc (.cells #[.slice pa m pc] 35)).alloc (.cells #[.int .i64 7, .int .i64 d, .int .i64 (ai : Int), .int .i64 (bi : Int), .int .i64 r, .int .i64 l, .int .i64 h, .int .i64 t] 72)).alloc (.cells #[.bool true, .slice (some ⟨sb, off, none⟩) 4 cap, .int .i64 c, .int .i64 u] 77)) := ⟨_, rfl⟩
  rw [← hV] at H
  have hS0 : HX w V Lb V.drew := ⟨H.drew, (Below.refl _ V).drew⟩
  clear H
  go_enter Try.func37, Try.ntmps37
  go_wp2_with fail
  rw [← hV]
  clear hV
  refine region_inv3 [(0, 7), (1, 8), (2, 9), (3, 10), (4, 11), (5, 12), (6, 13), (7, 14), (8, 15), (9, 16), (10, 17), (11, 18), (12, 6)]
    (fun j v _ => match j with
      | 0 => Is (.agg #[.slice pa m pc]) v
      | 1 => Is (.agg #[.int .i64 7, .int .i64 d, .int .i64 (ai : Int), .int .i64 (bi : Int), .int .i64 r, .int .i64 l, .int .i64 h, .int .i64 t]) v
      | 2 => Is (.agg #[.bool true, .slice (some ⟨sb, off, none⟩) 4 cap, .int .i64 c, .int .i64 u]) v
      | 3 => Is (.bool true) v
      | 4 => Is (.bool true) v
      | 5 => Is (.agg #[.bool true, .slice (some ⟨sb, off, none⟩) 4 cap, .int .i64 c, .int .i64 u]) v
      | 6 => Is (.agg #[.bool true, .int .i64 (lo 0), .int .i64 (hi 0), .int .i64 (lo 1), .int .i64 (hi 1), .int .i64 (lo 2), .int .i64 (hi 2), .int .i64 (lo 3), .int .i64 (hi 3), .int .i64 c, .int .i64 u]) v
      | 7 => Is (.agg #[.slice pa m pc]) v
      | 8 => Is (.agg #[.int .i64 7, .int .i64 d, .int .i64 (ai : Int), .int .i64 (bi : Int), .int .i64 r, .int .i64 l, .int .i64 h, .int .i64 t]) v
      | 9 => Is (.iface 164 (.agg #[.int .i64 (ai : Int), .int .i64 (bi : Int)])) v
      | 10 => Is (.bool q) v
      | 11 => Is (.bool q) v
      | 12 => Is (.bool q) v
      | _ => True)
    (fun _ W => HX w V Lb W) TT
    (by kernel_rfl) (by kernel_rfl) (by kernel_rfl) (by kernel_rfl) (by kernel_rfl) rfl hS0 (fun i j v W W' _ h _ => h) ?_ ?_
  · intro i L vals W hi' hφ hS hL hd
    have hi2 : i < 13 := hi'
    clear hi'
    rcases (show i = 0 ∨ i = 1 ∨ i = 2 ∨ i = 3 ∨ i = 4 ∨ i = 5 ∨ i = 6 ∨ i = 7 ∨ i = 8 ∨ i = 9 ∨ i = 10 ∨ i = 11 ∨ i = 12 by omega) with rfl | rfl | rfl | rfl | rfl | rfl | rfl | rfl | rfl | rfl | rfl | rfl | rfl
    · have y0 := hS.cell mP (i := 0) rfl
      dsimp only at y0
      refine wpAt_of rfl rfl ?_
      simp only [frOf, Act.put]
      go_wp2_with fail
      first | exact ⟨trivial, rfl, trivial, hS⟩ | exact ⟨rfl, trivial, hS⟩ | exact ⟨trivial, rfl, trivial⟩ | exact ⟨rfl, trivial⟩ | exact rfl
    · have x0 := hS.cell mI (i := 0) rfl
      have x1 := hS.cell mI (i := 1) rfl
      have x2 := hS.cell mI (i := 2) rfl
      have x3 := hS.cell mI (i := 3) rfl
      have x4 := hS.cell mI (i := 4) rfl
      have x5 := hS.cell mI (i := 5) rfl
      have x6 := hS.cell mI (i := 6) rfl
      have x7 := hS.cell mI (i := 7) rfl
      dsimp only at x0 x1 x2 x3 x4 x5 x6 x7
      refine wpAt_of rfl rfl ?_
      simp only [frOf, Act.put]
      go_wp2_with fail
      first | exact ⟨trivial, rfl, trivial, hS⟩ | exact ⟨rfl, trivial, hS⟩ | exact ⟨trivial, rfl, trivial⟩ | exact ⟨rfl, trivial⟩ | exact rfl
    · have c0 := hS.cell mS (i := 0) rfl
      have c1 := hS.cell mS (i := 1) rfl
      have c2 := hS.cell mS (i := 2) rfl
      have c3 := hS.cell mS (i := 3) rfl
      dsimp only at c0 c1 c2 c3
      refine wpAt_of rfl rfl ?_
      simp only [frOf, Act.put]
      go_wp2_with fail
      first | exact ⟨trivial, rfl, trivial, hS⟩ | exact ⟨rfl, trivial, hS⟩ | exact ⟨trivial, rfl, trivial⟩ | exact ⟨rfl, trivial⟩ | exact rfl
    · have k0 : vals 0 = .agg #[.slice pa m pc] := hφ 0 (hd 0 (by decide))
      have k1 : vals 1 = .agg #[.int .i64 7, .int .i64 d, .int .i64 (ai : Int), .int .i64 (bi : Int), .int .i64 r, .int .i64 l, .int .i64 h, .int .i64 t] := hφ 1 (hd 1 (by decide))
      have k2 : vals 2 = .agg #[.bool true, .slice (some ⟨sb, off, none⟩) 4 cap, .int .i64 c, .int .i64 u] := hφ 2 (hd 2 (by decide))
      refine wpAt_of rfl rfl ?_
      simp only [frOf, Act.put]
      go_wp2_with fail
      refine (canI _ _ _ _ _ _ _ _ _ _ _ _ _ _ _ _ _ _ _ _ _ _ _ _ _ _ hm hN (by omega) (hP.next hS.below) (hC.next hS.below)).mono ?_
      rintro e W' ⟨rfl, hb⟩
      rw [g.out]
      go_wp2_with fail
      first | exact ⟨trivial, rfl, trivial, HX.next hb hS⟩ | exact ⟨rfl, trivial, HX.next hb hS⟩ | exact ⟨trivial, rfl, trivial⟩ | exact ⟨rfl, trivial⟩ | exact rfl
    · have k3 : vals 3 = .bool true := hφ 3 (hd 3 (by decide))
      refine wpAt_of rfl rfl ?_
      simp only [frOf, Act.put]
      go_wp2_with fail
      first | exact ⟨trivial, rfl, trivial, hS⟩ | exact ⟨rfl, trivial, hS⟩ | exact ⟨trivial, rfl, trivial⟩ | exact ⟨rfl, trivial⟩ | exact rfl
    · have k4 : vals 4 = .bool true := hφ 4 (hd 4 (by decide))
      have c0 := hS.cell mS (i := 0) rfl
      have c1 := hS.cell mS (i := 1) rfl
      have c2 := hS.cell mS (i := 2) rfl
      have c3 := hS.cell mS (i := 3) rfl
      dsimp only at c0 c1 c2 c3
      simp only [wpAt, List.getElem?_toArray, List.getElem?_cons_succ, List.getElem?_cons_zero, slotOf, frOf, Act.put]
      go_wp2_with fail
      first | exact ⟨trivial, rfl, trivial, hS⟩ | exact ⟨rfl, trivial, hS⟩ | exact ⟨trivial, rfl, trivial⟩ | exact ⟨rfl, trivial⟩ | exact rfl
    · have k4 : vals 4 = .bool true := hφ 4 (hd 4 (by decide))
      have k5 : vals 5 = .agg #[.bool true, .slice (some ⟨sb, off, none⟩) 4 cap, .int .i64 c, .int .i64 u] := hφ 5 (hd 5 (by decide))
      simp only [wpAt, List.getElem?_toArray, List.getElem?_cons_succ, List.getElem?_cons_zero, slotOf, frOf, Act.put]
      go_wp2_with fail
      refine (arrivalT _ _ _ _ _ _ _ _ _ (hC.next hS.below)).mono ?_
      rintro e W' ⟨rfl, hb⟩
      go_wp2_with fail
      first | exact ⟨trivial, rfl, trivial, HX.next hb hS⟩ | exact ⟨rfl, trivial, HX.next hb hS⟩ | exact ⟨trivial, rfl, trivial⟩ | exact ⟨rfl, trivial⟩ | exact rfl
    · have k4 : vals 4 = .bool true := hφ 4 (hd 4 (by decide))
      have y0 := hS.cell mP (i := 0) rfl
      dsimp only at y0
      simp only [wpAt, List.getElem?_toArray, List.getElem?_cons_succ, List.getElem?_cons_zero, slotOf, frOf, Act.put]
      go_wp2_with fail
      first | exact ⟨trivial, rfl, trivial, hS⟩ | exact ⟨rfl, trivial, hS⟩ | exact ⟨trivial, rfl, trivial⟩ | exact ⟨rfl, trivial⟩ | exact rfl
    · have k4 : vals 4 = .bool true := hφ 4 (hd 4 (by decide))
      have x0 := hS.cell mI (i := 0) rfl
      have x1 := hS.cell mI (i := 1) rfl
      have x2 := hS.cell mI (i := 2) rfl
      have x3 := hS.cell mI (i := 3) rfl
      have x4 := hS.cell mI (i := 4) rfl
      have x5 := hS.cell mI (i := 5) rfl
      have x6 := hS.cell mI (i := 6) rfl
      have x7 := hS.cell mI (i := 7) rfl
      dsimp only at x0 x1 x2 x3 x4 x5 x6 x7
      simp only [wpAt, List.getElem?_toArray, List.getElem?_cons_succ, List.getElem?_cons_zero, slotOf, frOf, Act.put]
      go_wp2_with fail
      first | exact ⟨trivial, rfl, trivial, hS⟩ | exact ⟨rfl, trivial, hS⟩ | exact ⟨trivial, rfl, trivial⟩ | exact ⟨rfl, trivial⟩ | exact rfl
    · have k4 : vals 4 = .bool true := hφ 4 (hd 4 (by decide))
      have k8 : vals 8 = .agg #[.int .i64 7, .int .i64 d, .int .i64 (ai : Int), .int .i64 (bi : Int), .int .i64 r, .int .i64 l, .int .i64 h, .int .i64 t] := hφ 8 (hd 8 (by decide))
      simp only [wpAt, List.getElem?_toArray, List.getElem?_cons_succ, List.getElem?_cons_zero, slotOf, frOf, Act.put]
      go_wp2_with fail
      refine (stepOfI_7 _ _ _ _ _ _ _ _ ).mono ?_
      rintro e W' ⟨rfl, hb⟩
      go_wp2_with fail
      first | exact ⟨trivial, rfl, trivial, HX.next hb hS⟩ | exact ⟨rfl, trivial, HX.next hb hS⟩ | exact ⟨trivial, rfl, trivial⟩ | exact ⟨rfl, trivial⟩ | exact rfl
    · have k4 : vals 4 = .bool true := hφ 4 (hd 4 (by decide))
      have k6 : vals 6 = .agg #[.bool true, .int .i64 (lo 0), .int .i64 (hi 0), .int .i64 (lo 1), .int .i64 (hi 1), .int .i64 (lo 2), .int .i64 (hi 2), .int .i64 (lo 3), .int .i64 (hi 3), .int .i64 c, .int .i64 u] := hφ 6 (hd 6 (by decide))
      have k7 : vals 7 = .agg #[.slice pa m pc] := hφ 7 (hd 7 (by decide))
      have k9 : vals 9 = .iface 164 (.agg #[.int .i64 (ai : Int), .int .i64 (bi : Int)]) := hφ 9 (hd 9 (by decide))
      simp only [wpAt, List.getElem?_toArray, List.getElem?_cons_succ, List.getElem?_cons_zero, slotOf, frOf, Act.put]
      go_wp2_with fail
      refine (mayI_store _ _ _ (arL true lo c) (arL true hi u) _ _ _ hai hbi).mono ?_
      rintro e W' ⟨rfl, hb⟩
      simp only [hv.out]
      go_wp2_with fail
      first | exact ⟨trivial, rfl, trivial, HX.next hb hS⟩ | exact ⟨rfl, trivial, HX.next hb hS⟩ | exact ⟨trivial, rfl, trivial⟩ | exact ⟨rfl, trivial⟩ | exact rfl
    · have k4 : vals 4 = .bool true := hφ 4 (hd 4 (by decide))
      have k10 : vals 10 = .bool q := hφ 10 (hd 10 (by decide))
      refine wpAt_of rfl rfl ?_
      simp only [frOf, Act.put]
      go_wp2_with fail
      first | exact ⟨trivial, rfl, trivial, hS⟩ | exact ⟨rfl, trivial, hS⟩ | exact ⟨trivial, rfl, trivial⟩ | exact ⟨rfl, trivial⟩ | exact rfl
    · have k11 : vals 11 = .bool q := hφ 11 (hd 11 (by decide))
      refine wpAt_of rfl rfl ?_
      simp only [frOf, Act.put]
      go_wp2_with fail
      first | exact ⟨trivial, rfl, trivial, hS⟩ | exact ⟨rfl, trivial, hS⟩ | exact ⟨trivial, rfl, trivial⟩ | exact ⟨rfl, trivial⟩ | exact rfl
  · intro L vals W hall hφ hS
    have k0 : vals 0 = .agg #[.slice pa m pc] := hφ 0 (by decide)
    have k1 : vals 1 = .agg #[.int .i64 7, .int .i64 d, .int .i64 (ai : Int), .int .i64 (bi : Int), .int .i64 r, .int .i64 l, .int .i64 h, .int .i64 t] := hφ 1 (by decide)
    have k2 : vals 2 = .agg #[.bool true, .slice (some ⟨sb, off, none⟩) 4 cap, .int .i64 c, .int .i64 u] := hφ 2 (by decide)
    have k3 : vals 3 = .bool true := hφ 3 (by decide)
    have k4 : vals 4 = .bool true := hφ 4 (by decide)
    have k5 : vals 5 = .agg #[.bool true, .slice (some ⟨sb, off, none⟩) 4 cap, .int .i64 c, .int .i64 u] := hφ 5 (by decide)
    have k6 : vals 6 = .agg #[.bool true, .int .i64 (lo 0), .int .i64 (hi 0), .int .i64 (lo 1), .int .i64 (hi 1), .int .i64 (lo 2), .int .i64 (hi 2), .int .i64 (lo 3), .int .i64 (hi 3), .int .i64 c, .int .i64 u] := hφ 6 (by decide)
    have k7 : vals 7 = .agg #[.slice pa m pc] := hφ 7 (by decide)
    have k8 : vals 8 = .agg #[.int .i64 7, .int .i64 d, .int .i64 (ai : Int), .int .i64 (bi : Int), .int .i64 r, .int .i64 l, .int .i64 h, .int .i64 t] := hφ 8 (by decide)
    have k9 : vals 9 = .iface 164 (.agg #[.int .i64 (ai : Int), .int .i64 (bi : Int)]) := hφ 9 (by decide)
    have k10 : vals 10 = .bool q := hφ 10 (by decide)
    have k11 : vals 11 = .bool q := hφ 11 (by decide)
    have k12 : vals 12 = .bool q := hφ 12 (by decide)
    simp only [frOf, Act.put, List.setIfInBounds_toArray, List.set_cons_succ, List.set_cons_zero, k0, k1, k2, k3, k4, k5, k6, k7, k8, k9, k10, k11, k12]
    clear k0 k1 k2 k3 k4 k5 k6 k7 k8 k9 k10 k11 k12 hall hφ hS0
    have H := hS.1
    go_wp2_with fail
    go_ret
    exact ⟨rfl, H.below⟩
set_option maxRecDepth 10000 in
set_option maxHeartbeats 8000000 in
theorem absFailsI_8 (pa : Option Addr) (pb po m pc : Nat) (P : Nat → Proc) (S : Nat → Spot) (d : Int) (ai bi : Nat) (r l h t : Int) (sb off cap : Nat) (lo hi : Nat → Int) (c u : Int) (w : World) (hm : m ≤ 1048576) (hN : ∀ i, i < m → (P i).n ≤ 1048576) (hP : ProcsAt pa pb po m P S w) (hC : BndsAt (some ⟨sb, off, none⟩) sb off 4 lo hi w) (hai : ai < 4) (hbi : bi < 4) (g : Hid (canStep P m 8 d ai bi r l h t true 4 lo hi c u = true)) :
    Calls Try.prog 37 #[.agg #[.slice pa m pc], .agg #[.int .i64 8, .int .i64 d, .int .i64 (ai : Int), .int .i64 (bi : Int), .int .i64 r, .int .i64 l, .int .i64 h, .int .i64 t], .agg #[.bool true, .slice (some ⟨sb, off, none⟩) 4 cap, .int .i64 c, .int .i64 u]] w fun e w' => e = .returned (.bool (failB 8 r ai bi t.toNat lo hi P)) ∧ Below w.heap.size w w' := by
  obtain ⟨q, hq'⟩ : ∃ q, failB 8 r ai bi t.toNat lo hi P = q := ⟨_, rfl⟩
  have hq : Hid (failB 8 r ai bi t.toNat lo hi P = q) := hq'
  clear hq'
  rw [hq.out]
  have hv : Hid (false = q) := (by rw [← hq.out]; simp [failB] : _ = _)
  have H : HeldL w [(w.heap.size + 1 + 1, [Value.bool true, .slice (some ⟨sb, off, none⟩) 4 cap, .int .i64 c, .int .i64 u]), (w.heap.size + 1, [Value.int .i64 8, .int .i64 d, .int .i64 (ai : Int), .int .i64 (bi : Int), .int .i64 r, .int .i64 l, .int .i64 h, .int .i64 t]), (w.heap.size, [Value.slice pa m pc])] (((w.alloc (.cells #[.slice pa m pc] 35)).alloc (.cells #[.int .i64 8, .int .i64 d, .int .i64 (ai : Int), .int .i64 (bi : Int), .int .i64 r, .int .i64 l, .int .i64 h, .int .i64 t] 72)).alloc (.cells #[.bool true, .slice (some ⟨sb, off, none⟩) 4 cap, .int .i64 c, .int .i64 u] 77)) := by
    have e1 : w.heap.size + 1 = (w.alloc (.cells #[.slice pa m pc] 35)).heap.size := by simp
    have e2 : w.heap.size + 1 + 1 = ((w.alloc (.cells #[.slice pa m pc] 35)).alloc (.cells #[.int .i64 8, .int .i64 d, .int .i64 (ai : Int), .int .i64 (bi : Int), .int .i64 r, .int .i64 l, .int .i64 h, .int .i64 t] 72)).heap.size := by simp
    rw [e2, e1]
    exact HeldL.newL (vs := [Value.bool true, .slice (some ⟨sb, off, none⟩) 4 cap, .int .i64 c, .int .i64 u]) (HeldL.newL (vs := [Value.int .i64 8, .int .i64 d, .int .i64 (ai : Int), .int .i64 (bi : Int), .int .i64 r, .int .i64 l, .int .i64 h, .int .i64 t]) (HeldL.newL (vs := [Value.slice pa m pc]) (HeldL.nil w)))
  obtain ⟨Lb, hLb⟩ : ∃ L, L = [(w.heap.size + 1 + 1, [Value.bool true, .slice (some ⟨sb, off, none⟩) 4 cap, .int .i64 c, .int .i64 u]), (w.heap.size + 1, [Value.int .i64 8, .int .i64 d, .int .i64 (ai : Int), .int .i64 (bi : Int), .int .i64 r, .int .i64 l, .int .i64 h, .int .i64 t]), (w.heap.size, [Value.slice pa m pc])] := ⟨_, rfl⟩
  have mP : (w.heap.size, [Value.slice pa m pc]) ∈ Lb := by rw [hLb]; simp
  have mI : (w.heap.size + 1, [Value.int .i64 8, .int .i64 d, .int .i64 (ai : Int), .int .i64 (bi : Int), .int .i64 r, .int .i64 l, .int .i64 h, .int .i64 t]) ∈ Lb := by rw [hLb]; simp
  have mS : (w.heap.size + 1 + 1, [Value.bool true, .slice (some ⟨sb, off, none⟩) 4 cap, .int .i64 c, .int .i64 u]) ∈ Lb := by rw [hLb]; simp
  rw [← hLb] at H
  clear hLb
  obtain ⟨V, hV⟩ : ∃ V, V = (((w.alloc (.cells #[.slice pa m pc] 35)).alloc (.cells #[.int .i64 8, .int .i64 d, .int .i64 (ai : Int), .int .i64 (bi : Int), .int .i64 r, .int .i64 l, .int .i64 h, .int .i64 t] 72)).alloc (.cells #[.bool true, .slice (some ⟨sb, off, none⟩) 4 cap, .int .i64 c, .int .i64 u] 77)) := ⟨_, rfl⟩
  rw [← hV] at H
  have hS0 : HX w V Lb V.drew := ⟨H.drew, (Below.refl _ V).drew⟩
  clear H
  go_enter Try.func37, Try.ntmps37
  go_wp2_with fail
  rw [← hV]
  clear hV
  refine region_inv3 [(0, 7), (1, 8), (2, 9), (3, 10), (4, 11), (5, 12), (6, 13), (7, 14), (8, 15), (9, 16), (10, 17), (11, 18), (12, 6)]
    (fun j v _ => match j with
      | 0 => Is (.agg #[.slice pa m pc]) v
      | 1 => Is (.agg #[.int .i64 8, .int .i64 d, .int .i64 (ai : Int), .int .i64 (bi : Int), .int .i64 r, .int .i64 l, .int .i64 h, .int .i64 t]) v
      | 2 => Is (.agg #[.bool true, .slice (some ⟨sb, off, none⟩) 4 cap, .int .i64 c, .int .i64 u]) v
      | 3 => Is (.bool true) v
      | 4 => Is (.bool true) v
      | 5 => Is (.agg #[.bool true, .slice (some ⟨sb, off, none⟩) 4 cap, .int .i64 c, .int .i64 u]) v
      | 6 => Is (.agg #[.bool true, .int .i64 (lo 0), .int .i64 (hi 0), .int .i64 (lo 1), .int .i64 (hi 1), .int .i64 (lo 2), .int .i64 (hi 2), .int .i64 (lo 3), .int .i64 (hi 3), .int .i64 c, .int .i64 u]) v
      | 7 => Is (.agg #[.slice pa m pc]) v
      | 8 => Is (.agg #[.int .i64 8, .int .i64 d, .int .i64 (ai : Int), .int .i64 (bi : Int), .int .i64 r, .int .i64 l, .int .i64 h, .int .i64 t]) v
      | 9 => Is (.iface 173 (.agg #[.int .i64 (ai : Int), .int .i64 r, .int .i64 (bi : Int), .int .i64 t])) v
      | 10 => Is (.bool q) v
      | 11 => Is (.bool q) v
      | 12 => Is (.bool q) v
      | _ => True)
    (fun _ W => HX w V Lb W) TT
    (by kernel_rfl) (by kernel_rfl) (by kernel_rfl) (by kernel_rfl) (by kernel_rfl) rfl hS0 (fun i j v W W' _ h _ => h) ?_ ?_
  · intro i L vals W hi' hφ hS hL hd
    have hi2 : i < 13 := hi'
    clear hi'
    rcases (show i = 0 ∨ i = 1 ∨ i = 2 ∨ i = 3 ∨ i = 4 ∨ i = 5 ∨ i = 6 ∨ i = 7 ∨ i = 8 ∨ i = 9 ∨ i = 10 ∨ i = 11 ∨ i = 12 by omega) with rfl | rfl | rfl | rfl | rfl | rfl | rfl | rfl | rfl | rfl | rfl | rfl | rfl
    · have y0 := hS.cell mP (i := 0) rfl
      dsimp only at y0
      refine wpAt_of rfl rfl ?_
      simp only [frOf, Act.put]
      go_wp2_with fail
      first | exact ⟨trivial, rfl, trivial, hS⟩ | exact ⟨rfl, trivial, hS⟩ | exact ⟨trivial, rfl, trivial⟩ | exact ⟨rfl, trivial⟩ | exact rfl
    · have x0 := hS.cell mI (i := 0) rfl
      have x1 := hS.cell mI (i := 1) rfl
      have x2 := hS.cell mI (i := 2) rfl
      have x3 := hS.cell mI (i := 3) rfl
      have x4 := hS.cell mI (i := 4) rfl
      have x5 := hS.cell mI (i := 5) rfl
      have x6 := hS.cell mI (i := 6) rfl
      have x7 := hS.cell mI (i := 7) rfl
      dsimp only at x0 x1 x2 x3 x4 x5 x6 x7
      refine wpAt_of rfl rfl ?_
      simp only [frOf, Act.put]
      go_wp2_with fail
      first | exact ⟨trivial, rfl, trivial, hS⟩ | exact ⟨rfl, trivial, hS⟩ | exact ⟨trivial, rfl, trivial⟩ | exact ⟨rfl, trivial⟩ | exact rfl
    · have c0 := hS.cell mS (i := 0) rfl
      have c1 := hS.cell mS (i := 1) rfl
      have c2 := hS.cell mS (i := 2) rfl
      have c3 := hS.cell mS (i := 3) rfl
      dsimp only at c0 c1 c2 c3
      refine wpAt_of rfl rfl ?_
      simp only [frOf, Act.put]
      go_wp2_with fail
      first | exact ⟨trivial, rfl, trivial, hS⟩ | exact ⟨rfl, trivial, hS⟩ | exact ⟨trivial, rfl, trivial⟩ | exact ⟨rfl, trivial⟩ | exact rfl
    · have k0 : vals 0 = .agg #[.slice pa m pc] := hφ 0 (hd 0 (by decide))
      have k1 : vals 1 = .agg #[.int .i64 8, .int .i64 d, .int .i64 (ai : Int), .int .i64 (bi : Int), .int .i64 r, .int .i64 l, .int .i64 h, .int .i64 t] := hφ 1 (hd 1 (by decide))
      have k2 : vals 2 = .agg #[.bool true, .slice (some ⟨sb, off, none⟩) 4 cap, .int .i64 c, .int .i64 u] := hφ 2 (hd 2 (by decide))
      refine wpAt_of rfl rfl ?_
      simp only [frOf, Act.put]
      go_wp2_with fail
      refine (canI _ _ _ _ _ _ _ _ _ _ _ _ _ _ _ _ _ _ _ _ _ _ _ _ _ _ hm hN (by omega) (hP.next hS.below) (hC.next hS.below)).mono ?_
      rintro e W' ⟨rfl, hb⟩
      rw [g.out]
      go_wp2_with fail
      first | exact ⟨trivial, rfl, trivial, HX.next hb hS⟩ | exact ⟨rfl, trivial, HX.next hb hS⟩ | exact ⟨trivial, rfl, trivial⟩ | exact ⟨rfl, trivial⟩ | exact rfl
    · have k3 : vals 3 = .bool true := hφ 3 (hd 3 (by decide))
      refine wpAt_of rfl rfl ?_
      simp only [frOf, Act.put]
      go_wp2_with fail
      first | exact ⟨trivial, rfl, trivial, hS⟩ | exact ⟨rfl, trivial, hS⟩ | exact ⟨trivial, rfl, trivial⟩ | exact ⟨rfl, trivial⟩ | exact rfl
    · have k4 : vals 4 = .bool true := hφ 4 (hd 4 (by decide))
      have c0 := hS.cell mS (i := 0) rfl
      have c1 := hS.cell mS (i := 1) rfl
      have c2 := hS.cell mS (i := 2) rfl
      have c3 := hS.cell mS (i := 3) rfl
      dsimp only at c0 c1 c2 c3
      simp only [wpAt, List.getElem?_toArray, List.getElem?_cons_succ, List.getElem?_cons_zero, slotOf, frOf, Act.put]
      go_wp2_with fail
      first | exact ⟨trivial, rfl, trivial, hS⟩ | exact ⟨rfl, trivial, hS⟩ | exact ⟨trivial, rfl, trivial⟩ | exact ⟨rfl, trivial⟩ | exact rfl
    · have k4 : vals 4 = .bool true := hφ 4 (hd 4 (by decide))
      have k5 : vals 5 = .agg #[.bool true, .slice (some ⟨sb, off, none⟩) 4 cap, .int .i64 c, .int .i64 u] := hφ 5 (hd 5 (by decide))
      simp only [wpAt, List.getElem?_toArray, List.getElem?_cons_succ, List.getElem?_cons_zero, slotOf, frOf, Act.put]
      go_wp2_with fail
      refine (arrivalT _ _ _ _ _ _ _ _ _ (hC.next hS.below)).mono ?_
      rintro e W' ⟨rfl, hb⟩
      go_wp2_with fail
      first | exact ⟨trivial, rfl, trivial, HX.next hb hS⟩ | exact ⟨rfl, trivial, HX.next hb hS⟩ | exact ⟨trivial, rfl, trivial⟩ | exact ⟨rfl, trivial⟩ | exact rfl
    · have k4 : vals 4 = .bool true := hφ 4 (hd 4 (by decide))
      have y0 := hS.cell mP (i := 0) rfl
      dsimp only at y0
      simp only [wpAt, List.getElem?_toArray, List.getElem?_cons_succ, List.getElem?_cons_zero, slotOf, frOf, Act.put]
      go_wp2_with fail
      first | exact ⟨trivial, rfl, trivial, hS⟩ | exact ⟨rfl, trivial, hS⟩ | exact ⟨trivial, rfl, trivial⟩ | exact ⟨rfl, trivial⟩ | exact rfl
    · have k4 : vals 4 = .bool true := hφ 4 (hd 4 (by decide))
      have x0 := hS.cell mI (i := 0) rfl
      have x1 := hS.cell mI (i := 1) rfl
      have x2 := hS.cell mI (i := 2) rfl
      have x3 := hS.cell mI (i := 3) rfl
      have x4 := hS.cell mI (i := 4) rfl
      have x5 := hS.cell mI (i := 5) rfl
      have x6 := hS.cell mI (i := 6) rfl
      have x7 := hS.cell mI (i := 7) rfl
      dsimp only at x0 x1 x2 x3 x4 x5 x6 x7
      simp only [wpAt, List.getElem?_toArray, List.getElem?_cons_succ, List.getElem?_cons_zero, slotOf, frOf, Act.put]
      go_wp2_with fail
      first | exact ⟨trivial, rfl, trivial, hS⟩ | exact ⟨rfl, trivial, hS⟩ | exact ⟨trivial, rfl, trivial⟩ | exact ⟨rfl, trivial⟩ | exact rfl
    · have k4 : vals 4 = .bool true := hφ 4 (hd 4 (by decide))
      have k8 : vals 8 = .agg #[.int .i64 8, .int .i64 d, .int .i64 (ai : Int), .int .i64 (bi : Int), .int .i64 r, .int .i64 l, .int .i64 h, .int .i64 t] := hφ 8 (hd 8 (by decide))
      simp only [wpAt, List.getElem?_toArray, List.getElem?_cons_succ, List.getElem?_cons_zero, slotOf, frOf, Act.put]
      go_wp2_with fail
      refine (stepOfI_8 _ _ _ _ _ _ _ _ ).mono ?_
      rintro e W' ⟨rfl, hb⟩
      go_wp2_with fail
      first | exact ⟨trivial, rfl, trivial, HX.next hb hS⟩ | exact ⟨rfl, trivial, HX.next hb hS⟩ | exact ⟨trivial, rfl, trivial⟩ | exact ⟨rfl, trivial⟩ | exact rfl
    · have k4 : vals 4 = .bool true := hφ 4 (hd 4 (by decide))
      have k6 : vals 6 = .agg #[.bool true, .int .i64 (lo 0), .int .i64 (hi 0), .int .i64 (lo 1), .int .i64 (hi 1), .int .i64 (lo 2), .int .i64 (hi 2), .int .i64 (lo 3), .int .i64 (hi 3), .int .i64 c, .int .i64 u] := hφ 6 (hd 6 (by decide))
      have k7 : vals 7 = .agg #[.slice pa m pc] := hφ 7 (hd 7 (by decide))
      have k9 : vals 9 = .iface 173 (.agg #[.int .i64 (ai : Int), .int .i64 r, .int .i64 (bi : Int), .int .i64 t]) := hφ 9 (hd 9 (by decide))
      simp only [wpAt, List.getElem?_toArray, List.getElem?_cons_succ, List.getElem?_cons_zero, slotOf, frOf, Act.put]
      go_wp2_with fail
      refine (mayI_if _ _ _ (arL true lo c) (arL true hi u) _ _ _ _ _ hai hbi).mono ?_
      rintro e W' ⟨rfl, hb⟩
      simp only [hv.out]
      go_wp2_with fail
      first | exact ⟨trivial, rfl, trivial, HX.next hb hS⟩ | exact ⟨rfl, trivial, HX.next hb hS⟩ | exact ⟨trivial, rfl, trivial⟩ | exact ⟨rfl, trivial⟩ | exact rfl
    · have k4 : vals 4 = .bool true := hφ 4 (hd 4 (by decide))
      have k10 : vals 10 = .bool q := hφ 10 (hd 10 (by decide))
      refine wpAt_of rfl rfl ?_
      simp only [frOf, Act.put]
      go_wp2_with fail
      first | exact ⟨trivial, rfl, trivial, hS⟩ | exact ⟨rfl, trivial, hS⟩ | exact ⟨trivial, rfl, trivial⟩ | exact ⟨rfl, trivial⟩ | exact rfl
    · have k11 : vals 11 = .bool q := hφ 11 (hd 11 (by decide))
      refine wpAt_of rfl rfl ?_
      simp only [frOf, Act.put]
      go_wp2_with fail
      first | exact ⟨trivial, rfl, trivial, hS⟩ | exact ⟨rfl, trivial, hS⟩ | exact ⟨trivial, rfl, trivial⟩ | exact ⟨rfl, trivial⟩ | exact rfl
  · intro L vals W hall hφ hS
    have k0 : vals 0 = .agg #[.slice pa m pc] := hφ 0 (by decide)
    have k1 : vals 1 = .agg #[.int .i64 8, .int .i64 d, .int .i64 (ai : Int), .int .i64 (bi : Int), .int .i64 r, .int .i64 l, .int .i64 h, .int .i64 t] := hφ 1 (by decide)
    have k2 : vals 2 = .agg #[.bool true, .slice (some ⟨sb, off, none⟩) 4 cap, .int .i64 c, .int .i64 u] := hφ 2 (by decide)
    have k3 : vals 3 = .bool true := hφ 3 (by decide)
    have k4 : vals 4 = .bool true := hφ 4 (by decide)
    have k5 : vals 5 = .agg #[.bool true, .slice (some ⟨sb, off, none⟩) 4 cap, .int .i64 c, .int .i64 u] := hφ 5 (by decide)
    have k6 : vals 6 = .agg #[.bool true, .int .i64 (lo 0), .int .i64 (hi 0), .int .i64 (lo 1), .int .i64 (hi 1), .int .i64 (lo 2), .int .i64 (hi 2), .int .i64 (lo 3), .int .i64 (hi 3), .int .i64 c, .int .i64 u] := hφ 6 (by decide)
    have k7 : vals 7 = .agg #[.slice pa m pc] := hφ 7 (by decide)
    have k8 : vals 8 = .agg #[.int .i64 8, .int .i64 d, .int .i64 (ai : Int), .int .i64 (bi : Int), .int .i64 r, .int .i64 l, .int .i64 h, .int .i64 t] := hφ 8 (by decide)
    have k9 : vals 9 = .iface 173 (.agg #[.int .i64 (ai : Int), .int .i64 r, .int .i64 (bi : Int), .int .i64 t]) := hφ 9 (by decide)
    have k10 : vals 10 = .bool q := hφ 10 (by decide)
    have k11 : vals 11 = .bool q := hφ 11 (by decide)
    have k12 : vals 12 = .bool q := hφ 12 (by decide)
    simp only [frOf, Act.put, List.setIfInBounds_toArray, List.set_cons_succ, List.set_cons_zero, k0, k1, k2, k3, k4, k5, k6, k7, k8, k9, k10, k11, k12]
    clear k0 k1 k2 k3 k4 k5 k6 k7 k8 k9 k10 k11 k12 hall hφ hS0
    have H := hS.1
    go_wp2_with fail
    go_ret
    exact ⟨rfl, H.below⟩
set_option maxRecDepth 10000 in
set_option maxHeartbeats 8000000 in
theorem absFailsI_9 (pa : Option Addr) (pb po m pc : Nat) (P : Nat → Proc) (S : Nat → Spot) (d : Int) (ai bi : Nat) (r l h t : Int) (sb off cap : Nat) (lo hi : Nat → Int) (c u : Int) (w : World) (hm : m ≤ 1048576) (hN : ∀ i, i < m → (P i).n ≤ 1048576) (hP : ProcsAt pa pb po m P S w) (hC : BndsAt (some ⟨sb, off, none⟩) sb off 4 lo hi w) (hai : ai < 4) (hbi : bi < 4) (g : Hid (canStep P m 9 d ai bi r l h t true 4 lo hi c u = true)) :
    Calls Try.prog 37 #[.agg #[.slice pa m pc], .agg #[.int .i64 9, .int .i64 d, .int .i64 (ai : Int), .int .i64 (bi : Int), .int .i64 r, .int .i64 l, .int .i64 h, .int .i64 t], .agg #[.bool true, .slice (some ⟨sb, off, none⟩) 4 cap, .int .i64 c, .int .i64 u]] w fun e w' => e = .returned (.bool (failB 9 r ai bi t.toNat lo hi P)) ∧ Below w.heap.size w w' := by
  obtain ⟨q, hq'⟩ : ∃ q, failB 9 r ai bi t.toNat lo hi P = q := ⟨_, rfl⟩
  have hq : Hid (failB 9 r ai bi t.toNat lo hi P = q) := hq'
  clear hq'
  rw [hq.out]
  have hv : Hid (false = q) := (by rw [← hq.out]; simp [failB] : _ = _)
  have H : HeldL w [(w.heap.size + 1 + 1, [Value.bool true, .slice (some ⟨sb, off, none⟩) 4 cap, .int .i64 c, .int .i64 u]), (w.heap.size + 1, [Value.int .i64 9, .int .i64 d, .int .i64 (ai : Int), .int .i64 (bi : Int), .int .i64 r, .int .i64 l, .int .i64 h, .int .i64 t]), (w.heap.size, [Value.slice pa m pc])] (((w.alloc (.cells #[.slice pa m pc] 35)).alloc (.cells #[.int .i64 9, .int .i64 d, .int .i64 (ai : Int), .int .i64 (bi : Int), .int .i64 r, .int .i64 l, .int .i64 h, .int .i64 t] 72)).alloc (.cells #[.bool true, .slice (some ⟨sb, off, none⟩) 4 cap, .int .i64 c, .int .i64 u] 77)) := by
    have e1 : w.heap.size + 1 = (w.alloc (.cells #[.slice pa m pc] 35)).heap.size := by simp
    have e2 : w.heap.size + 1 + 1 = ((w.alloc (.cells #[.slice pa m pc] 35)).alloc (.cells #[.int .i64 9, .int .i64 d, .int .i64 (ai : Int), .int .i64 (bi : Int), .int .i64 r, .int .i64 l, .int .i64 h, .int .i64 t] 72)).heap.size := by simp
    rw [e2, e1]
    exact HeldL.newL (vs := [Value.bool true, .slice (some ⟨sb, off, none⟩) 4 cap, .int .i64 c, .int .i64 u]) (HeldL.newL (vs := [Value.int .i64 9, .int .i64 d, .int .i64 (ai : Int), .int .i64 (bi : Int), .int .i64 r, .int .i64 l, .int .i64 h, .int .i64 t]) (HeldL.newL (vs := [Value.slice pa m pc]) (HeldL.nil w)))
  obtain ⟨Lb, hLb⟩ : ∃ L, L = [(w.heap.size + 1 + 1, [Value.bool true, .slice (some ⟨sb, off, none⟩) 4 cap, .int .i64 c, .int .i64 u]), (w.heap.size + 1, [Value.int .i64 9, .int .i64 d, .int .i64 (ai : Int), .int .i64 (bi : Int), .int .i64 r, .int .i64 l, .int .i64 h, .int .i64 t]), (w.heap.size, [Value.slice pa m pc])] := ⟨_, rfl⟩
  have mP : (w.heap.size, [Value.slice pa m pc]) ∈ Lb := by rw [hLb]; simp
  have mI : (w.heap.size + 1, [Value.int .i64 9, .int .i64 d, .int .i64 (ai : Int), .int .i64 (bi : Int), .int .i64 r, .int .i64 l, .int .i64 h, .int .i64 t]) ∈ Lb := by rw [hLb]; simp
  have mS : (w.heap.size + 1 + 1, [Value.bool true, .slice (some ⟨sb, off, none⟩) 4 cap, .int .i64 c, .int .i64 u]) ∈ Lb := by rw [hLb]; simp
  rw [← hLb] at H
  clear hLb
  obtain ⟨V, hV⟩ : ∃ V, V = (((w.alloc (.cells #[.slice pa m pc] 35)).alloc (.cells #[.int .i64 9, .int .i64 d, .int .i64 (ai : Int), .int .i64 (bi : Int), .int .i64 r, .int .i64 l, .int .i64 h, .int .i64 t] 72)).alloc (.cells #[.bool true, .slice (some ⟨sb, off, none⟩) 4 cap, .int .i64 c, .int .i64 u] 77)) := ⟨_, rfl⟩
  rw [← hV] at H
  have hS0 : HX w V Lb V.drew := ⟨H.drew, (Below.refl _ V).drew⟩
  clear H
  go_enter Try.func37, Try.ntmps37
  go_wp2_with fail
  rw [← hV]
  clear hV
  refine region_inv3 [(0, 7), (1, 8), (2, 9), (3, 10), (4, 11), (5, 12), (6, 13), (7, 14), (8, 15), (9, 16), (10, 17), (11, 18), (12, 6)]
    (fun j v _ => match j with
      | 0 => Is (.agg #[.slice pa m pc]) v
      | 1 => Is (.agg #[.int .i64 9, .int .i64 d, .int .i64 (ai : Int), .int .i64 (bi : Int), .int .i64 r, .int .i64 l, .int .i64 h, .int .i64 t]) v
      | 2 => Is (.agg #[.bool true, .slice (some ⟨sb, off, none⟩) 4 cap, .int .i64 c, .int .i64 u]) v
      | 3 => Is (.bool true) v
      | 4 => Is (.bool true) v
      | 5 => Is (.agg #[.bool true, .slice (some ⟨sb, off, none⟩) 4 cap, .int .i64 c, .int .i64 u]) v
      | 6 => Is (.agg #[.bool true, .int .i64 (lo 0), .int .i64 (hi 0), .int .i64 (lo 1), .int .i64 (hi 1), .int .i64 (lo 2), .int .i64 (hi 2), .int .i64 (lo 3), .int .i64 (hi 3), .int .i64 c, .int .i64 u]) v
      | 7 => Is (.agg #[.slice pa m pc]) v
      | 8 => Is (.agg #[.int .i64 9, .int .i64 d, .int .i64 (ai : Int), .int .i64 (bi : Int), .int .i64 r, .int .i64 l, .int .i64 h, .int .i64 t]) v
      | 9 => Is (.iface 175 (.agg #[.int .i64 t])) v
      | 10 => Is (.bool q) v
      | 11 => Is (.bool q) v
      | 12 => Is (.bool q) v
      | _ => True)
    (fun _ W => HX w V Lb W) TT
    (by kernel_rfl) (by kernel_rfl) (by kernel_rfl) (by kernel_rfl) (by kernel_rfl) rfl hS0 (fun i j v W W' _ h _ => h) ?_ ?_
  · intro i L vals W hi' hφ hS hL hd
    have hi2 : i < 13 := hi'
    clear hi'
    rcases (show i = 0 ∨ i = 1 ∨ i = 2 ∨ i = 3 ∨ i = 4 ∨ i = 5 ∨ i = 6 ∨ i = 7 ∨ i = 8 ∨ i = 9 ∨ i = 10 ∨ i = 11 ∨ i = 12 by omega) with rfl | rfl | rfl | rfl | rfl | rfl | rfl | rfl | rfl | rfl | rfl | rfl | rfl
    · have y0 := hS.cell mP (i := 0) rfl
      dsimp only at y0
      refine wpAt_of rfl rfl ?_
      simp only [frOf, Act.put]
      go_wp2_with fail
      first | exact ⟨trivial, rfl, trivial, hS⟩ | exact ⟨rfl, trivial, hS⟩ | exact ⟨trivial, rfl, trivial⟩ | exact ⟨rfl, trivial⟩ | exact rfl
    · have x0 := hS.cell mI (i := 0) rfl
      have x1 := hS.cell mI (i := 1) rfl
      have x2 := hS.cell mI (i := 2) rfl
      have x3 := hS.cell mI (i := 3) rfl
      have x4 := hS.cell mI (i := 4) rfl
      have x5 := hS.cell mI (i := 5) rfl
      have x6 := hS.cell mI (i := 6) rfl
      have x7 := hS.cell mI (i := 7) rfl
      dsimp only at x0 x1 x2 x3 x4 x5 x6 x7
      refine wpAt_of rfl rfl ?_
      simp only [frOf, Act.put]
      go_wp2_with fail
      first | exact ⟨trivial, rfl, trivial, hS⟩ | exact ⟨rfl, trivial, hS⟩ | exact ⟨trivial, rfl, trivial⟩ | exact ⟨rfl, trivial⟩ | exact rfl
    · have c0 := hS.cell mS (i := 0) rfl
      have c1 := hS.cell mS (i := 1) rfl
      have c2 := hS.cell mS (i := 2) rfl
      have c3 := hS.cell mS (i := 3) rfl
      dsimp only at c0 c1 c2 c3
      refine wpAt_of rfl rfl ?_
      simp only [frOf, Act.put]
      go_wp2_with fail
      first | exact ⟨trivial, rfl, trivial, hS⟩ | exact ⟨rfl, trivial, hS⟩ | exact ⟨trivial, rfl, trivial⟩ | exact ⟨rfl, trivial⟩ | exact rfl
    · have k0 : vals 0 = .agg #[.slice pa m pc] := hφ 0 (hd 0 (by decide))
      have k1 : vals 1 = .agg #[.int .i64 9, .int .i64 d, .int .i64 (ai : Int), .int .i64 (bi : Int), .int .i64 r, .int .i64 l, .int .i64 h, .int .i64 t] := hφ 1 (hd 1 (by decide))
      have k2 : vals 2 = .agg #[.bool true, .slice (some ⟨sb, off, none⟩) 4 cap, .int .i64 c, .int .i64 u] := hφ 2 (hd 2 (by decide))
      refine wpAt_of rfl rfl ?_
      simp only [frOf, Act.put]
      go_wp2_with fail
      refine (canI _ _ _ _ _ _ _ _ _ _ _ _ _ _ _ _ _ _ _ _ _ _ _ _ _ _ hm hN (by omega) (hP.next hS.below) (hC.next hS.below)).mono ?_
      rintro e W' ⟨rfl, hb⟩
      rw [g.out]
      go_wp2_with fail
      first | exact ⟨trivial, rfl, trivial, HX.next hb hS⟩ | exact ⟨rfl, trivial, HX.next hb hS⟩ | exact ⟨trivial, rfl, trivial⟩ | exact ⟨rfl, trivial⟩ | exact rfl
    · have k3 : vals 3 = .bool true := hφ 3 (hd 3 (by decide))
      refine wpAt_of rfl rfl ?_
      simp only [frOf, Act.put]
      go_wp2_with fail
      first | exact ⟨trivial, rfl, trivial, hS⟩ | exact ⟨rfl, trivial, hS⟩ | exact ⟨trivial, rfl, trivial⟩ | exact ⟨rfl, trivial⟩ | exact rfl
    · have k4 : vals 4 = .bool true := hφ 4 (hd 4 (by decide))
      have c0 := hS.cell mS (i := 0) rfl
      have c1 := hS.cell mS (i := 1) rfl
      have c2 := hS.cell mS (i := 2) rfl
      have c3 := hS.cell mS (i := 3) rfl
      dsimp only at c0 c1 c2 c3
      simp only [wpAt, List.getElem?_toArray, List.getElem?_cons_succ, List.getElem?_cons_zero, slotOf, frOf, Act.put]
      go_wp2_with fail
      first | exact ⟨trivial, rfl, trivial, hS⟩ | exact ⟨rfl, trivial, hS⟩ | exact ⟨trivial, rfl, trivial⟩ | exact ⟨rfl, trivial⟩ | exact rfl
    · have k4 : vals 4 = .bool true := hφ 4 (hd 4 (by decide))
      have k5 : vals 5 = .agg #[.bool true, .slice (some ⟨sb, off, none⟩) 4 cap, .int .i64 c, .int .i64 u] := hφ 5 (hd 5 (by decide))
      simp only [wpAt, List.getElem?_toArray, List.getElem?_cons_succ, List.getElem?_cons_zero, slotOf, frOf, Act.put]
      go_wp2_with fail
      refine (arrivalT _ _ _ _ _ _ _ _ _ (hC.next hS.below)).mono ?_
      rintro e W' ⟨rfl, hb⟩
      go_wp2_with fail
      first | exact ⟨trivial, rfl, trivial, HX.next hb hS⟩ | exact ⟨rfl, trivial, HX.next hb hS⟩ | exact ⟨trivial, rfl, trivial⟩ | exact ⟨rfl, trivial⟩ | exact rfl
    · have k4 : vals 4 = .bool true := hφ 4 (hd 4 (by decide))
      have y0 := hS.cell mP (i := 0) rfl
      dsimp only at y0
      simp only [wpAt, List.getElem?_toArray, List.getElem?_cons_succ, List.getElem?_cons_zero, slotOf, frOf, Act.put]
      go_wp2_with fail
      first | exact ⟨trivial, rfl, trivial, hS⟩ | exact ⟨rfl, trivial, hS⟩ | exact ⟨trivial, rfl, trivial⟩ | exact ⟨rfl, trivial⟩ | exact rfl
    · have k4 : vals 4 = .bool true := hφ 4 (hd 4 (by decide))
      have x0 := hS.cell mI (i := 0) rfl
      have x1 := hS.cell mI (i := 1) rfl
      have x2 := hS.cell mI (i := 2) rfl
      have x3 := hS.cell mI (i := 3) rfl
      have x4 := hS.cell mI (i := 4) rfl
      have x5 := hS.cell mI (i := 5) rfl
      have x6 := hS.cell mI (i := 6) rfl
      have x7 := hS.cell mI (i := 7) rfl
      dsimp only at x0 x1 x2 x3 x4 x5 x6 x7
      simp only [wpAt, List.getElem?_toArray, List.getElem?_cons_succ, List.getElem?_cons_zero, slotOf, frOf, Act.put]
      go_wp2_with fail
      first | exact ⟨trivial, rfl, trivial, hS⟩ | exact ⟨rfl, trivial, hS⟩ | exact ⟨trivial, rfl, trivial⟩ | exact ⟨rfl, trivial⟩ | exact rfl
    · have k4 : vals 4 = .bool true := hφ 4 (hd 4 (by decide))
      have k8 : vals 8 = .agg #[.int .i64 9, .int .i64 d, .int .i64 (ai : Int), .int .i64 (bi : Int), .int .i64 r, .int .i64 l, .int .i64 h, .int .i64 t] := hφ 8 (hd 8 (by decide))
      simp only [wpAt, List.getElem?_toArray, List.getElem?_cons_succ, List.getElem?_cons_zero, slotOf, frOf, Act.put]
      go_wp2_with fail
      refine (stepOfI_9 _ _ _ _ _ _ _ _ ).mono ?_
      rintro e W' ⟨rfl, hb⟩
      go_wp2_with fail
      first | exact ⟨trivial, rfl, trivial, HX.next hb hS⟩ | exact ⟨rfl, trivial, HX.next hb hS⟩ | exact ⟨trivial, rfl, trivial⟩ | exact ⟨rfl, trivial⟩ | exact rfl
    · have k4 : vals 4 = .bool true := hφ 4 (hd 4 (by decide))
      have k6 : vals 6 = .agg #[.bool true, .int .i64 (lo 0), .int .i64 (hi 0), .int .i64 (lo 1), .int .i64 (hi 1), .int .i64 (lo 2), .int .i64 (hi 2), .int .i64 (lo 3), .int .i64 (hi 3), .int .i64 c, .int .i64 u] := hφ 6 (hd 6 (by decide))
      have k7 : vals 7 = .agg #[.slice pa m pc] := hφ 7 (hd 7 (by decide))
      have k9 : vals 9 = .iface 175 (.agg #[.int .i64 t]) := hφ 9 (hd 9 (by decide))
      simp only [wpAt, List.getElem?_toArray, List.getElem?_cons_succ, List.getElem?_cons_zero, slotOf, frOf, Act.put]
      go_wp2_with fail
      refine (mayI_jump _ _ _ (arL true lo c) (arL true hi u) _ _ ).mono ?_
      rintro e W' ⟨rfl, hb⟩
      simp only [hv.out]
      go_wp2_with fail
      first | exact ⟨trivial, rfl, trivial, HX.next hb hS⟩ | exact ⟨rfl, trivial, HX.next hb hS⟩ | exact ⟨trivial, rfl, trivial⟩ | exact ⟨rfl, trivial⟩ | exact rfl
    · have k4 : vals 4 = .bool true := hφ 4 (hd 4 (by decide))
      have k10 : vals 10 = .bool q := hφ 10 (hd 10 (by decide))
      refine wpAt_of rfl rfl ?_
      simp only [frOf, Act.put]
      go_wp2_with fail
      first | exact ⟨trivial, rfl, trivial, hS⟩ | exact ⟨rfl, trivial, hS⟩ | exact ⟨trivial, rfl, trivial⟩ | exact ⟨rfl, trivial⟩ | exact rfl
    · have k11 : vals 11 = .bool q := hφ 11 (hd 11 (by decide))
      refine wpAt_of rfl rfl ?_
      simp only [frOf, Act.put]
      go_wp2_with fail
      first | exact ⟨trivial, rfl, trivial, hS⟩ | exact ⟨rfl, trivial, hS⟩ | exact ⟨trivial, rfl, trivial⟩ | exact ⟨rfl, trivial⟩ | exact rfl
  · intro L vals W hall hφ hS
    have k0 : vals 0 = .agg #[.slice pa m pc] := hφ 0 (by decide)
    have k1 : vals 1 = .agg #[.int .i64 9, .int .i64 d, .int .i64 (ai : Int), .int .i64 (bi : Int), .int .i64 r, .int .i64 l, .int .i64 h, .int .i64 t] := hφ 1 (by decide)
    have k2 : vals 2 = .agg #[.bool true, .slice (some ⟨sb, off, none⟩) 4 cap, .int .i64 c, .int .i64 u] := hφ 2 (by decide)
    have k3 : vals 3 = .bool true := hφ 3 (by decide)
    have k4 : vals 4 = .bool true := hφ 4 (by decide)
    have k5 : vals 5 = .agg #[.bool true, .slice (some ⟨sb, off, none⟩) 4 cap, .int .i64 c, .int .i64 u] := hφ 5 (by decide)
    have k6 : vals 6 = .agg #[.bool true, .int .i64 (lo 0), .int .i64 (hi 0), .int .i64 (lo 1), .int .i64 (hi 1), .int .i64 (lo 2), .int .i64 (hi 2), .int .i64 (lo 3), .int .i64 (hi 3), .int .i64 c, .int .i64 u] := hφ 6 (by decide)
    have k7 : vals 7 = .agg #[.slice pa m pc] := hφ 7 (by decide)
    have k8 : vals 8 = .agg #[.int .i64 9, .int .i64 d, .int .i64 (ai : Int), .int .i64 (bi : Int), .int .i64 r, .int .i64 l, .int .i64 h, .int .i64 t] := hφ 8 (by decide)
    have k9 : vals 9 = .iface 175 (.agg #[.int .i64 t]) := hφ 9 (by decide)
    have k10 : vals 10 = .bool q := hφ 10 (by decide)
    have k11 : vals 11 = .bool q := hφ 11 (by decide)
    have k12 : vals 12 = .bool q := hφ 12 (by decide)
    simp only [frOf, Act.put, List.setIfInBounds_toArray, List.set_cons_succ, List.set_cons_zero, k0, k1, k2, k3, k4, k5, k6, k7, k8, k9, k10, k11, k12]
    clear k0 k1 k2 k3 k4 k5 k6 k7 k8 k9 k10 k11 k12 hall hφ hS0
    have H := hS.1
    go_wp2_with fail
    go_ret
    exact ⟨rfl, H.below⟩
set_option maxRecDepth 10000 in
set_option maxHeartbeats 8000000 in
theorem absFailsI_10 (pb po m pc : Nat) (P : Nat → Proc) (S : Nat → Spot) (d : Int) (ai bi ti : Nat) (r l h : Int) (sb off cap : Nat) (lo hi : Nat → Int) (c u : Int) (w : World) (hm : m ≤ 1048576) (hN : ∀ i, i < m → (P i).n ≤ 1048576) (hP : ProcsAt (some ⟨pb, po, none⟩) pb po m P S w) (hC : BndsAt (some ⟨sb, off, none⟩) sb off 4 lo hi w) (hai : ai < 4) (hbi : bi < 4) (hti : ti < m) (g : Hid (canStep P m 10 d ai bi r l h (ti : Int) true 4 lo hi c u = true)) :
    Calls Try.prog 37 #[.agg #[.slice (some ⟨pb, po, none⟩) m pc], .agg #[.int .i64 10, .int .i64 d, .int .i64 (ai : Int), .int .i64 (bi : Int), .int .i64 r, .int .i64 l, .int .i64 h, .int .i64 (ti : Int)], .agg #[.bool true, .slice (some ⟨sb, off, none⟩) 4 cap, .int .i64 c, .int .i64 u]] w fun e w' => e = .returned (.bool (failB 10 r ai bi ti lo hi P)) ∧ Below w.heap.size w w' := by
  obtain ⟨q, hq'⟩ : ∃ q, failB 10 r ai bi ti lo hi P = q := ⟨_, rfl⟩
  have hq : Hid (failB 10 r ai bi ti lo hi P = q) := hq'
  clear hq'
  rw [hq.out]
  have hv : Hid ((!itvIn (arL true lo c ai) (arL true hi u ai) (P ti).lo (P ti).hi) = q) := (by rw [← hq.out]; simp [failB, arL, hai] : _ = _)
  have H : HeldL w [(w.heap.size + 1 + 1, [Value.bool true, .slice (some ⟨sb, off, none⟩) 4 cap, .int .i64 c, .int .i64 u]), (w.heap.size + 1, [Value.int .i64 10, .int .i64 d, .int .i64 (ai : Int), .int .i64 (bi : Int), .int .i64 r, .int .i64 l, .int .i64 h, .int .i64 (ti : Int)]), (w.heap.size, [Value.slice (some ⟨pb, po, none⟩) m pc])] (((w.alloc (.cells #[.slice (some ⟨pb, po, none⟩) m pc] 35)).alloc (.cells #[.int .i64 10, .int .i64 d, .int .i64 (ai : Int), .int .i64 (bi : Int), .int .i64 r, .int .i64 l, .int .i64 h, .int .i64 (ti : Int)] 72)).alloc (.cells #[.bool true, .slice (some ⟨sb, off, none⟩) 4 cap, .int .i64 c, .int .i64 u] 77)) := by
    have e1 : w.heap.size + 1 = (w.alloc (.cells #[.slice (some ⟨pb, po, none⟩) m pc] 35)).heap.size := by simp
    have e2 : w.heap.size + 1 + 1 = ((w.alloc (.cells #[.slice (some ⟨pb, po, none⟩) m pc] 35)).alloc (.cells #[.int .i64 10, .int .i64 d, .int .i64 (ai : Int), .int .i64 (bi : Int), .int .i64 r, .int .i64 l, .int .i64 h, .int .i64 (ti : Int)] 72)).heap.size := by simp
    rw [e2, e1]
    exact HeldL.newL (vs := [Value.bool true, .slice (some ⟨sb, off, none⟩) 4 cap, .int .i64 c, .int .i64 u]) (HeldL.newL (vs := [Value.int .i64 10, .int .i64 d, .int .i64 (ai : Int), .int .i64 (bi : Int), .int .i64 r, .int .i64 l, .int .i64 h, .int .i64 (ti : Int)]) (HeldL.newL (vs := [Value.slice (some ⟨pb, po, none⟩) m pc]) (HeldL.nil w)))
  obtain ⟨Lb, hLb⟩ : ∃ L, L = [(w.heap.size + 1 + 1, [Value.bool true, .slice (some ⟨sb, off, none⟩) 4 cap, .int .i64 c, .int .i64 u]), (w.heap.size + 1, [Value.int .i64 10, .int .i64 d, .int .i64 (ai : Int), .int .i64 (bi : Int), .int .i64 r, .int .i64 l, .int .i64 h, .int .i64 (ti : Int)]), (w.heap.size, [Value.slice (some ⟨pb, po, none⟩) m pc])] := ⟨_, rfl⟩
  have mP : (w.heap.size, [Value.slice (some ⟨pb, po, none⟩) m pc]) ∈ Lb := by rw [hLb]; simp
  have mI : (w.heap.size + 1, [Value.int .i64 10, .int .i64 d, .int .i64 (ai : Int), .int .i64 (bi : Int), .int .i64 r, .int .i64 l, .int .i64 h, .int .i64 (ti : Int)]) ∈ Lb := by rw [hLb]; simp
  have mS : (w.heap.size + 1 + 1, [Value.bool true, .slice (some ⟨sb, off, none⟩) 4 cap, .int .i64 c, .int .i64 u]) ∈ Lb := by rw [hLb]; simp
  rw [← hLb] at H
  clear hLb
  obtain ⟨V, hV⟩ : ∃ V, V = (((w.alloc (.cells #[.slice (some ⟨pb, po, none⟩) m pc] 35)).alloc (.cells #[.int .i64 10, .int .i64 d, .int .i64 (ai : Int), .int .i64 (bi : Int), .int .i64 r, .int .i64 l, .int .i64 h, .int .i64 (ti : Int)] 72)).alloc (.cells #[.bool true, .slice (some ⟨sb, off, none⟩) 4 cap, .int .i64 c, .int .i64 u] 77)) := ⟨_, rfl⟩
  rw [← hV] at H
  have hS0 : HX w V Lb V.drew := ⟨H.drew, (Below.refl _ V).drew⟩
  clear H
  go_enter Try.func37, Try.ntmps37
  go_wp2_with fail
  rw [← hV]
  clear hV
  refine region_inv3 [(0, 7), (1, 8), (2, 9), (3, 10), (4, 11), (5, 12), (6, 13), (7, 14), (8, 15), (9, 16), (10, 17), (11, 18), (12, 6)]
    (fun j v _ => match j with
      | 0 => Is (.agg #[.slice (some ⟨pb, po, none⟩) m pc]) v
      | 1 => Is (.agg #[.int .i64 10, .int .i64 d, .int .i64 (ai : Int), .int .i64 (bi : Int), .int .i64 r, .int .i64 l, .int .i64 h, .int .i64 (ti : Int)]) v
      | 2 => Is (.agg #[.bool true, .slice (some ⟨sb, off, none⟩) 4 cap, .int .i64 c, .int .i64 u]) v
      | 3 => Is (.bool true) v
      | 4 => Is (.bool true) v
      | 5 => Is (.agg #[.bool true, .slice (some ⟨sb, off, none⟩) 4 cap, .int .i64 c, .int .i64 u]) v
      | 6 => Is (.agg #[.bool true, .int .i64 (lo 0), .int .i64 (hi 0), .int .i64 (lo 1), .int .i64 (hi 1), .int .i64 (lo 2), .int .i64 (hi 2), .int .i64 (lo 3), .int .i64 (hi 3), .int .i64 c, .int .i64 u]) v
      | 7 => Is (.agg #[.slice (some ⟨pb, po, none⟩) m pc]) v
      | 8 => Is (.agg #[.int .i64 10, .int .i64 d, .int .i64 (ai : Int), .int .i64 (bi : Int), .int .i64 r, .int .i64 l, .int .i64 h, .int .i64 (ti : Int)]) v
      | 9 => Is (.iface 166 (.agg #[.int .i64 d, .int .i64 (ti : Int), .int .i64 (ai : Int)])) v
      | 10 => Is (.bool q) v
      | 11 => Is (.bool q) v
      | 12 => Is (.bool q) v
      | _ => True)
    (fun _ W => HX w V Lb W) TT
    (by kernel_rfl) (by kernel_rfl) (by kernel_rfl) (by kernel_rfl) (by kernel_rfl) rfl hS0 (fun i j v W W' _ h _ => h) ?_ ?_
  · intro i L vals W hi' hφ hS hL hd
    have hi2 : i < 13 := hi'
    clear hi'
    rcases (show i = 0 ∨ i = 1 ∨ i = 2 ∨ i = 3 ∨ i = 4 ∨ i = 5 ∨ i = 6 ∨ i = 7 ∨ i = 8 ∨ i = 9 ∨ i = 10 ∨ i = 11 ∨ i = 12 by omega) with rfl | rfl | rfl | rfl | rfl | rfl | rfl | rfl | rfl | rfl | rfl | rfl | rfl
    · have y0 := hS.cell mP (i := 0) rfl
      dsimp only at y0
      refine wpAt_of rfl rfl ?_
      simp only [frOf, Act.put]
      go_wp2_with fail
      first | exact ⟨trivial, rfl, trivial, hS⟩ | exact ⟨rfl, trivial, hS⟩ | exact ⟨trivial, rfl, trivial⟩ | exact ⟨rfl, trivial⟩ | exact rfl
    · have x0 := hS.cell mI (i := 0) rfl
      have x1 := hS.cell mI (i := 1) rfl
      have x2 := hS.cell mI (i := 2) rfl
      have x3 := hS.cell mI (i := 3) rfl
      have x4 := hS.cell mI (i := 4) rfl
      have x5 := hS.cell mI (i := 5) rfl
      have x6 := hS.cell mI (i := 6) rfl
      have x7 := hS.cell mI (i := 7) rfl
      dsimp only at x0 x1 x2 x3 x4 x5 x6 x7
      refine wpAt_of rfl rfl ?_
      simp only [frOf, Act.put]
      go_wp2_with fail
      first | exact ⟨trivial, rfl, trivial, hS⟩ | exact ⟨rfl, trivial, hS⟩ | exact ⟨trivial, rfl, trivial⟩ | exact ⟨rfl, trivial⟩ | exact rfl
    · have c0 := hS.cell mS (i := 0) rfl
      have c1 := hS.cell mS (i := 1) rfl
      have c2 := hS.cell mS (i := 2) rfl
      have c3 := hS.cell mS (i := 3) rfl
      dsimp only at c0 c1 c2 c3
      refine wpAt_of rfl rfl ?_
      simp only [frOf, Act.put]
      go_wp2_with fail
      first | exact ⟨trivial, rfl, trivial, hS⟩ | exact ⟨rfl, trivial, hS⟩ | exact ⟨trivial, rfl, trivial⟩ | exact ⟨rfl, trivial⟩ | exact rfl
    · have k0 : vals 0 = .agg #[.slice (some ⟨pb, po, none⟩) m pc] := hφ 0 (hd 0 (by decide))
      have k1 : vals 1 = .agg #[.int .i64 10, .int .i64 d, .int .i64 (ai : Int), .int .i64 (bi : Int), .int .i64 r, .int .i64 l, .int .i64 h, .int .i64 (ti : Int)] := hφ 1 (hd 1 (by decide))
      have k2 : vals 2 = .agg #[.bool true, .slice (some ⟨sb, off, none⟩) 4 cap, .int .i64 c, .int .i64 u] := hφ 2 (hd 2 (by decide))
      refine wpAt_of rfl rfl ?_
      simp only [frOf, Act.put]
      go_wp2_with fail
      refine (canI _ _ _ _ _ _ _ _ _ _ _ _ _ _ _ _ _ _ _ _ _ _ _ _ _ _ hm hN (by omega) (hP.next hS.below) (hC.next hS.below)).mono ?_
      rintro e W' ⟨rfl, hb⟩
      rw [g.out]
      go_wp2_with fail
      first | exact ⟨trivial, rfl, trivial, HX.next hb hS⟩ | exact ⟨rfl, trivial, HX.next hb hS⟩ | exact ⟨trivial, rfl, trivial⟩ | exact ⟨rfl, trivial⟩ | exact rfl
    · have k3 : vals 3 = .bool true := hφ 3 (hd 3 (by decide))
      refine wpAt_of rfl rfl ?_
      simp only [frOf, Act.put]
      go_wp2_with fail
      first | exact ⟨trivial, rfl, trivial, hS⟩ | exact ⟨rfl, trivial, hS⟩ | exact ⟨trivial, rfl, trivial⟩ | exact ⟨rfl, trivial⟩ | exact rfl
    · have k4 : vals 4 = .bool true := hφ 4 (hd 4 (by decide))
      have c0 := hS.cell mS (i := 0) rfl
      have c1 := hS.cell mS (i := 1) rfl
      have c2 := hS.cell mS (i := 2) rfl
      have c3 := hS.cell mS (i := 3) rfl
      dsimp only at c0 c1 c2 c3
      simp only [wpAt, List.getElem?_toArray, List.getElem?_cons_succ, List.getElem?_cons_zero, slotOf, frOf, Act.put]
      go_wp2_with fail
      first | exact ⟨trivial, rfl, trivial, hS⟩ | exact ⟨rfl, trivial, hS⟩ | exact ⟨trivial, rfl, trivial⟩ | exact ⟨rfl, trivial⟩ | exact rfl
    · have k4 : vals 4 = .bool true := hφ 4 (hd 4 (by decide))
      have k5 : vals 5 = .agg #[.bool true, .slice (some ⟨sb, off, none⟩) 4 cap, .int .i64 c, .int .i64 u] := hφ 5 (hd 5 (by decide))
      simp only [wpAt, List.getElem?_toArray, List.getElem?_cons_succ, List.getElem?_cons_zero, slotOf, frOf, Act.put]
      go_wp2_with fail
      refine (arrivalT _ _ _ _ _ _ _ _ _ (hC.next hS.below)).mono ?_
      rintro e W' ⟨rfl, hb⟩
      go_wp2_with fail
      first | exact ⟨trivial, rfl, trivial, HX.next hb hS⟩ | exact ⟨rfl, trivial, HX.next hb hS⟩ | exact ⟨trivial, rfl, trivial⟩ | exact ⟨rfl, trivial⟩ | exact rfl
    · have k4 : vals 4 = .bool true := hφ 4 (hd 4 (by decide))
      have y0 := hS.cell mP (i := 0) rfl
      dsimp only at y0
      simp only [wpAt, List.getElem?_toArray, List.getElem?_cons_succ, List.getElem?_cons_zero, slotOf, frOf, Act.put]
      go_wp2_with fail
      first | exact ⟨trivial, rfl, trivial, hS⟩ | exact ⟨rfl, trivial, hS⟩ | exact ⟨trivial, rfl, trivial⟩ | exact ⟨rfl, trivial⟩ | exact rfl
    · have k4 : vals 4 = .bool true := hφ 4 (hd 4 (by decide))
      have x0 := hS.cell mI (i := 0) rfl
      have x1 := hS.cell mI (i := 1) rfl
      have x2 := hS.cell mI (i := 2) rfl
      have x3 := hS.cell mI (i := 3) rfl
      have x4 := hS.cell mI (i := 4) rfl
      have x5 := hS.cell mI (i := 5) rfl
      have x6 := hS.cell mI (i := 6) rfl
      have x7 := hS.cell mI (i := 7) rfl
      dsimp only at x0 x1 x2 x3 x4 x5 x6 x7
      simp only [wpAt, List.getElem?_toArray, List.getElem?_cons_succ, List.getElem?_cons_zero, slotOf, frOf, Act.put]
      go_wp2_with fail
      first | exact ⟨trivial, rfl, trivial, hS⟩ | exact ⟨rfl, trivial, hS⟩ | exact ⟨trivial, rfl, trivial⟩ | exact ⟨rfl, trivial⟩ | exact rfl
    · have k4 : vals 4 = .bool true := hφ 4 (hd 4 (by decide))
      have k8 : vals 8 = .agg #[.int .i64 10, .int .i64 d, .int .i64 (ai : Int), .int .i64 (bi : Int), .int .i64 r, .int .i64 l, .int .i64 h, .int .i64 (ti : Int)] := hφ 8 (hd 8 (by decide))
      simp only [wpAt, List.getElem?_toArray, List.getElem?_cons_succ, List.getElem?_cons_zero, slotOf, frOf, Act.put]
      go_wp2_with fail
      refine (stepOfI_10 _ _ _ _ _ _ _ _ ).mono ?_
      rintro e W' ⟨rfl, hb⟩
      go_wp2_with fail
      first | exact ⟨trivial, rfl, trivial, HX.next hb hS⟩ | exact ⟨rfl, trivial, HX.next hb hS⟩ | exact ⟨trivial, rfl, trivial⟩ | exact ⟨rfl, trivial⟩ | exact rfl
    · have k4 : vals 4 = .bool true := hφ 4 (hd 4 (by decide))
      have k6 : vals 6 = .agg #[.bool true, .int .i64 (lo 0), .int .i64 (hi 0), .int .i64 (lo 1), .int .i64 (hi 1), .int .i64 (lo 2), .int .i64 (hi 2), .int .i64 (lo 3), .int .i64 (hi 3), .int .i64 c, .int .i64 u] := hφ 6 (hd 6 (by decide))
      have k7 : vals 7 = .agg #[.slice (some ⟨pb, po, none⟩) m pc] := hφ 7 (hd 7 (by decide))
      have k9 : vals 9 = .iface 166 (.agg #[.int .i64 d, .int .i64 (ti : Int), .int .i64 (ai : Int)]) := hφ 9 (hd 9 (by decide))
      simp only [wpAt, List.getElem?_toArray, List.getElem?_cons_succ, List.getElem?_cons_zero, slotOf, frOf, Act.put]
      go_wp2_with fail
      refine (mayI_call _ _ _ _ _ _ (arL true lo c) (arL true hi u) _ _ _ _ hti hai (hP.next hS.below)).mono ?_
      rintro e W' ⟨rfl, hb⟩
      simp only [hv.out]
      go_wp2_with fail
      first | exact ⟨trivial, rfl, trivial, HX.next hb hS⟩ | exact ⟨rfl, trivial, HX.next hb hS⟩ | exact ⟨trivial, rfl, trivial⟩ | exact ⟨rfl, trivial⟩ | exact rfl
    · have k4 : vals 4 = .bool true := hφ 4 (hd 4 (by decide))
      have k10 : vals 10 = .bool q := hφ 10 (hd 10 (by decide))
      refine wpAt_of rfl rfl ?_
      simp only [frOf, Act.put]
      go_wp2_with fail
      first | exact ⟨trivial, rfl, trivial, hS⟩ | exact ⟨rfl, trivial, hS⟩ | exact ⟨trivial, rfl, trivial⟩ | exact ⟨rfl, trivial⟩ | exact rfl
    · have k11 : vals 11 = .bool q := hφ 11 (hd 11 (by decide))
      refine wpAt_of rfl rfl ?_
      simp only [frOf, Act.put]
      go_wp2_with fail
      first | exact ⟨trivial, rfl, trivial, hS⟩ | exact ⟨rfl, trivial, hS⟩ | exact ⟨trivial, rfl, trivial⟩ | exact ⟨rfl, trivial⟩ | exact rfl
  · intro L vals W hall hφ hS
    have k0 : vals 0 = .agg #[.slice (some ⟨pb, po, none⟩) m pc] := hφ 0 (by decide)
    have k1 : vals 1 = .agg #[.int .i64 10, .int .i64 d, .int .i64 (ai : Int), .int .i64 (bi : Int), .int .i64 r, .int .i64 l, .int .i64 h, .int .i64 (ti : Int)] := hφ 1 (by decide)
    have k2 : vals 2 = .agg #[.bool true, .slice (some ⟨sb, off, none⟩) 4 cap, .int .i64 c, .int .i64 u] := hφ 2 (by decide)
    have k3 : vals 3 = .bool true := hφ 3 (by decide)
    have k4 : vals 4 = .bool true := hφ 4 (by decide)
    have k5 : vals 5 = .agg #[.bool true, .slice (some ⟨sb, off, none⟩) 4 cap, .int .i64 c, .int .i64 u] := hφ 5 (by decide)
    have k6 : vals 6 = .agg #[.bool true, .int .i64 (lo 0), .int .i64 (hi 0), .int .i64 (lo 1), .int .i64 (hi 1), .int .i64 (lo 2), .int .i64 (hi 2), .int .i64 (lo 3), .int .i64 (hi 3), .int .i64 c, .int .i64 u] := hφ 6 (by decide)
    have k7 : vals 7 = .agg #[.slice (some ⟨pb, po, none⟩) m pc] := hφ 7 (by decide)
    have k8 : vals 8 = .agg #[.int .i64 10, .int .i64 d, .int .i64 (ai : Int), .int .i64 (bi : Int), .int .i64 r, .int .i64 l, .int .i64 h, .int .i64 (ti : Int)] := hφ 8 (by decide)
    have k9 : vals 9 = .iface 166 (.agg #[.int .i64 d, .int .i64 (ti : Int), .int .i64 (ai : Int)]) := hφ 9 (by decide)
    have k10 : vals 10 = .bool q := hφ 10 (by decide)
    have k11 : vals 11 = .bool q := hφ 11 (by decide)
    have k12 : vals 12 = .bool q := hφ 12 (by decide)
    simp only [frOf, Act.put, List.setIfInBounds_toArray, List.set_cons_succ, List.set_cons_zero, k0, k1, k2, k3, k4, k5, k6, k7, k8, k9, k10, k11, k12]
    clear k0 k1 k2 k3 k4 k5 k6 k7 k8 k9 k10 k11 k12 hall hφ hS0
    have H := hS.1
    go_wp2_with fail
    go_ret
    exact ⟨rfl, H.below⟩
set_option maxRecDepth 10000 in
set_option maxHeartbeats 8000000 in
theorem absFailsI_11 (pa : Option Addr) (pb po m pc : Nat) (P : Nat → Proc) (S : Nat → Spot) (d : Int) (ai bi : Nat) (r l h t : Int) (sb off cap : Nat) (lo hi : Nat → Int) (c u : Int) (w : World) (hm : m ≤ 1048576) (hN : ∀ i, i < m → (P i).n ≤ 1048576) (hP : ProcsAt pa pb po m P S w) (hC : BndsAt (some ⟨sb, off, none⟩) sb off 4 lo hi w) (hai : ai < 4) (hbi : bi < 4) (g : Hid (canStep P m 11 d ai bi r l h t true 4 lo hi c u = true)) :
    Calls Try.prog 37 #[.agg #[.slice pa m pc], .agg #[.int .i64 11, .int .i64 d, .int .i64 (ai : Int), .int .i64 (bi : Int), .int .i64 r, .int .i64 l, .int .i64 h, .int .i64 t], .agg #[.bool true, .slice (some ⟨sb, off, none⟩) 4 cap, .int .i64 c, .int .i64 u]] w fun e w' => e = .returned (.bool (failB 11 r ai bi t.toNat lo hi P)) ∧ Below w.heap.size w w' := by
  obtain ⟨q, hq'⟩ : ∃ q, failB 11 r ai bi t.toNat lo hi P = q := ⟨_, rfl⟩
  have hq : Hid (failB 11 r ai bi t.toNat lo hi P = q) := hq'
  clear hq'
  rw [hq.out]
  have hv : Hid ((itvNot r (arL true lo c ai) (arL true hi u ai) (arL true lo c bi) (arL true hi u bi)).ok = q) := (by rw [← hq.out]; simp [failB, arL, hai, hbi] : _ = _)
  have H : HeldL w [(w.heap.size + 1 + 1, [Value.bool true, .slice (some ⟨sb, off, none⟩) 4 cap, .int .i64 c, .int .i64 u]), (w.heap.size + 1, [Value.int .i64 11, .int .i64 d, .int .i64 (ai : Int), .int .i64 (bi : Int), .int .i64 r, .int .i64 l, .int .i64 h, .int .i64 t]), (w.heap.size, [Value.slice pa m pc])] (((w.alloc (.cells #[.slice pa m pc] 35)).alloc (.cells #[.int .i64 11, .int .i64 d, .int .i64 (ai : Int), .int .i64 (bi : Int), .int .i64 r, .int .i64 l, .int .i64 h, .int .i64 t] 72)).alloc (.cells #[.bool true, .slice (some ⟨sb, off, none⟩) 4 cap, .int .i64 c, .int .i64 u] 77)) := by
    have e1 : w.heap.size + 1 = (w.alloc (.cells #[.slice pa m pc] 35)).heap.size := by simp
    have e2 : w.heap.size + 1 + 1 = ((w.alloc (.cells #[.slice pa m pc] 35)).alloc (.cells #[.int .i64 11, .int .i64 d, .int .i64 (ai : Int), .int .i64 (bi : Int), .int .i64 r, .int .i64 l, .int .i64 h, .int .i64 t] 72)).heap.size := by simp
    rw [e2, e1]
    exact HeldL.newL (vs := [Value.bool true, .slice (some ⟨sb, off, none⟩) 4 cap, .int .i64 c, .int .i64 u]) (HeldL.newL (vs := [Value.int .i64 11, .int .i64 d, .int .i64 (ai : Int), .int .i64 (bi : Int), .int .i64 r, .int .i64 l, .int .i64 h, .int .i64 t]) (HeldL.newL (vs := [Value.slice pa m pc]) (HeldL.nil w)))
  obtain ⟨Lb, hLb⟩ : ∃ L, L = [(w.heap.size + 1 + 1, [Value.bool true, .slice (some ⟨sb, off, none⟩) 4 cap, .int .i64 c, .int .i64 u]), (w.heap.size + 1, [Value.int .i64 11, .int .i64 d, .int .i64 (ai : Int), .int .i64 (bi : Int), .int .i64 r, .int .i64 l, .int .i64 h, .int .i64 t]), (w.heap.size, [Value.slice pa m pc])] := ⟨_, rfl⟩
  have mP : (w.heap.size, [Value.slice pa m pc]) ∈ Lb := by rw [hLb]; simp
  have mI : (w.heap.size + 1, [Value.int .i64 11, .int .i64 d, .int .i64 (ai : Int), .int .i64 (bi : Int), .int .i64 r, .int .i64 l, .int .i64 h, .int .i64 t]) ∈ Lb := by rw [hLb]; simp
  have mS : (w.heap.size + 1 + 1, [Value.bool true, .slice (some ⟨sb, off, none⟩) 4 cap, .int .i64 c, .int .i64 u]) ∈ Lb := by rw [hLb]; simp
  rw [← hLb] at H
  clear hLb
  obtain ⟨V, hV⟩ : ∃ V, V = (((w.alloc (.cells #[.slice pa m pc] 35)).alloc (.cells #[.int .i64 11, .int .i64 d, .int .i64 (ai : Int), .int .i64 (bi : Int), .int .i64 r, .int .i64 l, .int .i64 h, .int .i64 t] 72)).alloc (.cells #[.bool true, .slice (some ⟨sb, off, none⟩) 4 cap, .int .i64 c, .int .i64 u] 77)) := ⟨_, rfl⟩
  rw [← hV] at H
  have hS0 : HX w V Lb V.drew := ⟨H.drew, (Below.refl _ V).drew⟩
  clear H
  go_enter Try.func37, Try.ntmps37
  go_wp2_with fail
  rw [← hV]
  clear hV
  refine region_inv3 [(0, 7), (1, 8), (2, 9), (3, 10), (4, 11), (5, 12), (6, 13), (7, 14), (8, 15), (9, 16), (10, 17), (11, 18), (12, 6)]
    (fun j v _ => match j with
      | 0 => Is (.agg #[.slice pa m pc]) v
      | 1 => Is (.agg #[.int .i64 11, .int .i64 d, .int .i64 (ai : Int), .int .i64 (bi : Int), .int .i64 r, .int .i64 l, .int .i64 h, .int .i64 t]) v
      | 2 => Is (.agg #[.bool true, .slice (some ⟨sb, off, none⟩) 4 cap, .int .i64 c, .int .i64 u]) v
      | 3 => Is (.bool true) v
      | 4 => Is (.bool true) v
      | 5 => Is (.agg #[.bool true, .slice (some ⟨sb, off, none⟩) 4 cap, .int .i64 c, .int .i64 u]) v
      | 6 => Is (.agg #[.bool true, .int .i64 (lo 0), .int .i64 (hi 0), .int .i64 (lo 1), .int .i64 (hi 1), .int .i64 (lo 2), .int .i64 (hi 2), .int .i64 (lo 3), .int .i64 (hi 3), .int .i64 c, .int .i64 u]) v
      | 7 => Is (.agg #[.slice pa m pc]) v
      | 8 => Is (.agg #[.int .i64 11, .int .i64 d, .int .i64 (ai : Int), .int .i64 (bi : Int), .int .i64 r, .int .i64 l, .int .i64 h, .int .i64 t]) v
      | 9 => Is (.iface 169 (.agg #[.int .i64 (ai : Int), .int .i64 r, .int .i64 (bi : Int)])) v
      | 10 => Is (.bool q) v
      | 11 => Is (.bool q) v
      | 12 => Is (.bool q) v
      | _ => True)
    (fun _ W => HX w V Lb W) TT
    (by kernel_rfl) (by kernel_rfl) (by kernel_rfl) (by kernel_rfl) (by kernel_rfl) rfl hS0 (fun i j v W W' _ h _ => h) ?_ ?_
  · intro i L vals W hi' hφ hS hL hd
    have hi2 : i < 13 := hi'
    clear hi'
    rcases (show i = 0 ∨ i = 1 ∨ i = 2 ∨ i = 3 ∨ i = 4 ∨ i = 5 ∨ i = 6 ∨ i = 7 ∨ i = 8 ∨ i = 9 ∨ i = 10 ∨ i = 11 ∨ i = 12 by omega) with rfl | rfl | rfl | rfl | rfl | rfl | rfl | rfl | rfl | rfl | rfl | rfl | rfl
    · have y0 := hS.cell mP (i := 0) rfl
      dsimp only at y0
      refine wpAt_of rfl rfl ?_
      simp only [frOf, Act.put]
      go_wp2_with fail
      first | exact ⟨trivial, rfl, trivial, hS⟩ | exact ⟨rfl, trivial, hS⟩ | exact ⟨trivial, rfl, trivial⟩ | exact ⟨rfl, trivial⟩ | exact rfl
    · have x0 := hS.cell mI (i := 0) rfl
      have x1 := hS.cell mI (i := 1) rfl
      have x2 := hS.cell mI (i := 2) rfl
      have x3 := hS.cell mI (i := 3) rfl
      have x4 := hS.cell mI (i := 4) rfl
      have x5 := hS.cell mI (i := 5) rfl
      have x6 := hS.cell mI (i := 6) rfl
      have x7 := hS.cell mI (i := 7) rfl
      dsimp only at x0 x1 x2 x3 x4 x5 x6 x7
      refine wpAt_of rfl rfl ?_
      simp only [frOf, Act.put]
      go_wp2_with fail
      first | exact ⟨trivial, rfl, trivial, hS⟩ | exact ⟨rfl, trivial, hS⟩ | exact ⟨trivial, rfl, trivial⟩ | exact ⟨rfl, trivial⟩ | exact rfl
    · have c0 := hS.cell mS (i := 0) rfl
      have c1 := hS.cell mS (i := 1) rfl
      have c2 := hS.cell mS (i := 2) rfl
      have c3 := hS.cell mS (i := 3) rfl
      dsimp only at c0 c1 c2 c3
      refine wpAt_of rfl rfl ?_
      simp only [frOf, Act.put]
      go_wp2_with fail
      first | exact ⟨trivial, rfl, trivial, hS⟩ | exact ⟨rfl, trivial, hS⟩ | exact ⟨trivial, rfl, trivial⟩ | exact ⟨rfl, trivial⟩ | exact rfl
    · have k0 : vals 0 = .agg #[.slice pa m pc] := hφ 0 (hd 0 (by decide))
      have k1 : vals 1 = .agg #[.int .i64 11, .int .i64 d, .int .i64 (ai : Int), .int .i64 (bi : Int), .int .i64 r, .int .i64 l, .int .i64 h, .int .i64 t] := hφ 1 (hd 1 (by decide))
      have k2 : vals 2 = .agg #[.bool true, .slice (some ⟨sb, off, none⟩) 4 cap, .int .i64 c, .int .i64 u] := hφ 2 (hd 2 (by decide))
      refine wpAt_of rfl rfl ?_
      simp only [frOf, Act.put]
      go_wp2_with fail
      refine (canI _ _ _ _ _ _ _ _ _ _ _ _ _ _ _ _ _ _ _ _ _ _ _ _ _ _ hm hN (by omega) (hP.next hS.below) (hC.next hS.below)).mono ?_
      rintro e W' ⟨rfl, hb⟩
      rw [g.out]
      go_wp2_with fail
      first | exact ⟨trivial, rfl, trivial, HX.next hb hS⟩ | exact ⟨rfl, trivial, HX.next hb hS⟩ | exact ⟨trivial, rfl, trivial⟩ | exact ⟨rfl, trivial⟩ | exact rfl
    · have k3 : vals 3 = .bool true := hφ 3 (hd 3 (by decide))
      refine wpAt_of rfl rfl ?_
      simp only [frOf, Act.put]
      go_wp2_with fail
      first | exact ⟨trivial, rfl, trivial, hS⟩ | exact ⟨rfl, trivial, hS⟩ | exact ⟨trivial, rfl, trivial⟩ | exact ⟨rfl, trivial⟩ | exact rfl
    · have k4 : vals 4 = .bool true := hφ 4 (hd 4 (by decide))
      have c0 := hS.cell mS (i := 0) rfl
      have c1 := hS.cell mS (i := 1) rfl
      have c2 := hS.cell mS (i := 2) rfl
      have c3 := hS.cell mS (i := 3) rfl
      dsimp only at c0 c1 c2 c3
      simp only [wpAt, List.getElem?_toArray, List.getElem?_cons_succ, List.getElem?_cons_zero, slotOf, frOf, Act.put]
      go_wp2_with fail
      first | exact ⟨trivial, rfl, trivial, hS⟩ | exact ⟨rfl, trivial, hS⟩ | exact ⟨trivial, rfl, trivial⟩ | exact ⟨rfl, trivial⟩ | exact rfl
    · have k4 : vals 4 = .bool true := hφ 4 (hd 4 (by decide))
      have k5 : vals 5 = .agg #[.bool true, .slice (some ⟨sb, off, none⟩) 4 cap, .int .i64 c, .int .i64 u] := hφ 5 (hd 5 (by decide))
      simp only [wpAt, List.getElem?_toArray, List.getElem?_cons_succ, List.getElem?_cons_zero, slotOf, frOf, Act.put]
      go_wp2_with fail
      refine (arrivalT _ _ _ _ _ _ _ _ _ (hC.next hS.below)).mono ?_
      rintro e W' ⟨rfl, hb⟩
      go_wp2_with fail
      first | exact ⟨trivial, rfl, trivial, HX.next hb hS⟩ | exact ⟨rfl, trivial, HX.next hb hS⟩ | exact ⟨trivial, rfl, trivial⟩ | exact ⟨rfl, trivial⟩ | exact rfl
    · have k4 : vals 4 = .bool true := hφ 4 (hd 4 (by decide))
      have y0 := hS.cell mP (i := 0) rfl
      dsimp only at y0
      simp only [wpAt, List.getElem?_toArray, List.getElem?_cons_succ, List.getElem?_cons_zero, slotOf, frOf, Act.put]
      go_wp2_with fail
      first | exact ⟨trivial, rfl, trivial, hS⟩ | exact ⟨rfl, trivial, hS⟩ | exact ⟨trivial, rfl, trivial⟩ | exact ⟨rfl, trivial⟩ | exact rfl
    · have k4 : vals 4 = .bool true := hφ 4 (hd 4 (by decide))
      have x0 := hS.cell mI (i := 0) rfl
      have x1 := hS.cell mI (i := 1) rfl
      have x2 := hS.cell mI (i := 2) rfl
      have x3 := hS.cell mI (i := 3) rfl
      have x4 := hS.cell mI (i := 4) rfl
      have x5 := hS.cell mI (i := 5) rfl
      have x6 := hS.cell mI (i := 6) rfl
      have x7 := hS.cell mI (i := 7) rfl
      dsimp only at x0 x1 x2 x3 x4 x5 x6 x7
      simp only [wpAt, List.getElem?_toArray, List.getElem?_cons_succ, List.getElem?_cons_zero, slotOf, frOf, Act.put]
      go_wp2_with fail
      first | exact ⟨trivial, rfl, trivial, hS⟩ | exact ⟨rfl, trivial, hS⟩ | exact ⟨trivial, rfl, trivial⟩ | exact ⟨rfl, trivial⟩ | exact rfl
    · have k4 : vals 4 = .bool true := hφ 4 (hd 4 (by decide))
      have k8 : vals 8 = .agg #[.int .i64 11, .int .i64 d, .int .i64 (ai : Int), .int .i64 (bi : Int), .int .i64 r, .int .i64 l, .int .i64 h, .int .i64 t] := hφ 8 (hd 8 (by decide))
      simp only [wpAt, List.getElem?_toArray, List.getElem?_cons_succ, List.getElem?_cons_zero, slotOf, frOf, Act.put]
      go_wp2_with fail
      refine (stepOfI_11 _ _ _ _ _ _ _ _ ).mono ?_
      rintro e W' ⟨rfl, hb⟩
      go_wp2_with fail
      first | exact ⟨trivial, rfl, trivial, HX.next hb hS⟩ | exact ⟨rfl, trivial, HX.next hb hS⟩ | exact ⟨trivial, rfl, trivial⟩ | exact ⟨rfl, trivial⟩ | exact rfl
    · have k4 : vals 4 = .bool true := hφ 4 (hd 4 (by decide))
      have k6 : vals 6 = .agg #[.bool true, .int .i64 (lo 0), .int .i64 (hi 0), .int .i64 (lo 1), .int .i64 (hi 1), .int .i64 (lo 2), .int .i64 (hi 2), .int .i64 (lo 3), .int .i64 (hi 3), .int .i64 c, .int .i64 u] := hφ 6 (hd 6 (by decide))
      have k7 : vals 7 = .agg #[.slice pa m pc] := hφ 7 (hd 7 (by decide))
      have k9 : vals 9 = .iface 169 (.agg #[.int .i64 (ai : Int), .int .i64 r, .int .i64 (bi : Int)]) := hφ 9 (hd 9 (by decide))
      simp only [wpAt, List.getElem?_toArray, List.getElem?_cons_succ, List.getElem?_cons_zero, slotOf, frOf, Act.put]
      go_wp2_with fail
      refine (mayI_assert _ _ _ (arL true lo c) (arL true hi u) _ _ _ _ hai hbi).mono ?_
      rintro e W' ⟨rfl, hb⟩
      simp only [hv.out]
      go_wp2_with fail
      first | exact ⟨trivial, rfl, trivial, HX.next hb hS⟩ | exact ⟨rfl, trivial, HX.next hb hS⟩ | exact ⟨trivial, rfl, trivial⟩ | exact ⟨rfl, trivial⟩ | exact rfl
    · have k4 : vals 4 = .bool true := hφ 4 (hd 4 (by decide))
      have k10 : vals 10 = .bool q := hφ 10 (hd 10 (by decide))
      refine wpAt_of rfl rfl ?_
      simp only [frOf, Act.put]
      go_wp2_with fail
      first | exact ⟨trivial, rfl, trivial, hS⟩ | exact ⟨rfl, trivial, hS⟩ | exact ⟨trivial, rfl, trivial⟩ | exact ⟨rfl, trivial⟩ | exact rfl
    · have k11 : vals 11 = .bool q := hφ 11 (hd 11 (by decide))
      refine wpAt_of rfl rfl ?_
      simp only [frOf, Act.put]
      go_wp2_with fail
      first | exact ⟨trivial, rfl, trivial, hS⟩ | exact ⟨rfl, trivial, hS⟩ | exact ⟨trivial, rfl, trivial⟩ | exact ⟨rfl, trivial⟩ | exact rfl
  · intro L vals W hall hφ hS
    have k0 : vals 0 = .agg #[.slice pa m pc] := hφ 0 (by decide)
    have k1 : vals 1 = .agg #[.int .i64 11, .int .i64 d, .int .i64 (ai : Int), .int .i64 (bi : Int), .int .i64 r, .int .i64 l, .int .i64 h, .int .i64 t] := hφ 1 (by decide)
    have k2 : vals 2 = .agg #[.bool true, .slice (some ⟨sb, off, none⟩) 4 cap, .int .i64 c, .int .i64 u] := hφ 2 (by decide)
    have k3 : vals 3 = .bool true := hφ 3 (by decide)
    have k4 : vals 4 = .bool true := hφ 4 (by decide)
    have k5 : vals 5 = .agg #[.bool true, .slice (some ⟨sb, off, none⟩) 4 cap, .int .i64 c, .int .i64 u] := hφ 5 (by decide)
    have k6 : vals 6 = .agg #[.bool true, .int .i64 (lo 0), .int .i64 (hi 0), .int .i64 (lo 1), .int .i64 (hi 1), .int .i64 (lo 2), .int .i64 (hi 2), .int .i64 (lo 3), .int .i64 (hi 3), .int .i64 c, .int .i64 u] := hφ 6 (by decide)
    have k7 : vals 7 = .agg #[.slice pa m pc] := hφ 7 (by decide)
    have k8 : vals 8 = .agg #[.int .i64 11, .int .i64 d, .int .i64 (ai : Int), .int .i64 (bi : Int), .int .i64 r, .int .i64 l, .int .i64 h, .int .i64 t] := hφ 8 (by decide)
    have k9 : vals 9 = .iface 169 (.agg #[.int .i64 (ai : Int), .int .i64 r, .int .i64 (bi : Int)]) := hφ 9 (by decide)
    have k10 : vals 10 = .bool q := hφ 10 (by decide)
    have k11 : vals 11 = .bool q := hφ 11 (by decide)
    have k12 : vals 12 = .bool q := hφ 12 (by decide)
    simp only [frOf, Act.put, List.setIfInBounds_toArray, List.set_cons_succ, List.set_cons_zero, k0, k1, k2, k3, k4, k5, k6, k7, k8, k9, k10, k11, k12]
    clear k0 k1 k2 k3 k4 k5 k6 k7 k8 k9 k10 k11 k12 hall hφ hS0
    have H := hS.1
    go_wp2_with fail
    go_ret
    exact ⟨rfl, H.below⟩
set_option maxRecDepth 10000 in
set_option maxHeartbeats 8000000 in
theorem absFailsI_12 (pa : Option Addr) (pb po m pc : Nat) (P : Nat → Proc) (S : Nat → Spot) (d : Int) (ai bi : Nat) (r l h t : Int) (sb off cap : Nat) (lo hi : Nat → Int) (c u : Int) (w : World) (hm : m ≤ 1048576) (hN : ∀ i, i < m → (P i).n ≤ 1048576) (hP : ProcsAt pa pb po m P S w) (hC : BndsAt (some ⟨sb, off, none⟩) sb off 4 lo hi w) (hai : ai < 4) (hbi : bi < 4) (g : Hid (canStep P m 12 d ai bi r l h t true 4 lo hi c u = true)) :
    Calls Try.prog 37 #[.agg #[.slice pa m pc], .agg #[.int .i64 12, .int .i64 d, .int .i64 (ai : Int), .int .i64 (bi : Int), .int .i64 r, .int .i64 l, .int .i64 h, .int .i64 t], .agg #[.bool true, .slice (some ⟨sb, off, none⟩) 4 cap, .int .i64 c, .int .i64 u]] w fun e w' => e = .returned (.bool (failB 12 r ai bi t.toNat lo hi P)) ∧ Below w.heap.size w w' := by
  obtain ⟨q, hq'⟩ : ∃ q, failB 12 r ai bi t.toNat lo hi P = q := ⟨_, rfl⟩
  have hq : Hid (failB 12 r ai bi t.toNat lo hi P = q) := hq'
  clear hq'
  rw [hq.out]
  have hv : Hid (false = q) := (by rw [← hq.out]; simp [failB] : _ = _)
  have H : HeldL w [(w.heap.size + 1 + 1, [Value.bool true, .slice (some ⟨sb, off, none⟩) 4 cap, .int .i64 c, .int .i64 u]), (w.heap.size + 1, [Value.int .i64 12, .int .i64 d, .int .i64 (ai : Int), .int .i64 (bi : Int), .int .i64 r, .int .i64 l, .int .i64 h, .int .i64 t]), (w.heap.size, [Value.slice pa m pc])] (((w.alloc (.cells #[.slice pa m pc] 35)).alloc (.cells #[.int .i64 12, .int .i64 d, .int .i64 (ai : Int), .int .i64 (bi : Int), .int .i64 r, .int .i64 l, .int .i64 h, .int .i64 t] 72)).alloc (.cells #[.bool true, .slice (some ⟨sb, off, none⟩) 4 cap, .int .i64 c, .int .i64 u] 77)) := by
    have e1 : w.heap.size + 1 = (w.alloc (.cells #[.slice pa m pc] 35)).heap.size := by simp
    have e2 : w.heap.size + 1 + 1 = ((w.alloc (.cells #[.slice pa m pc] 35)).alloc (.cells #[.int .i64 12, .int .i64 d, .int .i64 (ai : Int), .int .i64 (bi : Int), .int .i64 r, .int .i64 l, .int .i64 h, .int .i64 t] 72)).heap.size := by simp
    rw [e2, e1]
    exact HeldL.newL (vs := [Value.bool true, .slice (some ⟨sb, off, none⟩) 4 cap, .int .i64 c, .int .i64 u]) (HeldL.newL (vs := [Value.int .i64 12, .int .i64 d, .int .i64 (ai : Int), .int .i64 (bi : Int), .int .i64 r, .int .i64 l, .int .i64 h, .int .i64 t]) (HeldL.newL (vs := [Value.slice pa m pc]) (HeldL.nil w)))
  obtain ⟨Lb, hLb⟩ : ∃ L, L = [(w.heap.size + 1 + 1, [Value.bool true, .slice (some ⟨sb, off, none⟩) 4 cap, .int .i64 c, .int .i64 u]), (w.heap.size + 1, [Value.int .i64 12, .int .i64 d, .int .i64 (ai : Int), .int .i64 (bi : Int), .int .i64 r, .int .i64 l, .int .i64 h, .int .i64 t]), (w.heap.size, [Value.slice pa m pc])] := ⟨_, rfl⟩
  have mP : (w.heap.size, [Value.slice pa m pc]) ∈ Lb := by rw [hLb]; simp
  have mI : (w.heap.size + 1, [Value.int .i64 12, .int .i64 d, .int .i64 (ai : Int), .int .i64 (bi : Int), .int .i64 r, .int .i64 l, .int .i64 h, .int .i64 t]) ∈ Lb := by rw [hLb]; simp
  have mS : (w.heap.size + 1 + 1, [Value.bool true, .slice (some ⟨sb, off, none⟩) 4 cap, .int .i64 c, .int .i64 u]) ∈ Lb := by rw [hLb]; simp
  rw [← hLb] at H
  clear hLb
  obtain ⟨V, hV⟩ : ∃ V, V = (((w.alloc (.cells #[.slice pa m pc] 35)).alloc (.cells #[.int .i64 12, .int .i64 d, .int .i64 (ai : Int), .int .i64 (bi : Int), .int .i64 r, .int .i64 l, .int .i64 h, .int .i64 t] 72)).alloc (.cells #[.bool true, .slice (some ⟨sb, off, none⟩) 4 cap, .int .i64 c, .int .i64 u] 77)) := ⟨_, rfl⟩
  rw [← hV] at H
  have hS0 : HX w V Lb V.drew := ⟨H.drew, (Below.refl _ V).drew⟩
  clear H
  go_enter Try.func37, Try.ntmps37
  go_wp2_with fail
  rw [← hV]
  clear hV
  refine region_inv3 [(0, 7), (1, 8), (2, 9), (3, 10), (4, 11), (5, 12), (6, 13), (7, 14), (8, 15), (9, 16), (10, 17), (11, 18), (12, 6)]
    (fun j v _ => match j with
      | 0 => Is (.agg #[.slice pa m pc]) v
      | 1 => Is (.agg #[.int .i64 12, .int .i64 d, .int .i64 (ai : Int), .int .i64 (bi : Int), .int .i64 r, .int .i64 l, .int .i64 h, .int .i64 t]) v
      | 2 => Is (.agg #[.bool true, .slice (some ⟨sb, off, none⟩) 4 cap, .int .i64 c, .int .i64 u]) v
      | 3 => Is (.bool true) v
      | 4 => Is (.bool true) v
      | 5 => Is (.agg #[.bool true, .slice (some ⟨sb, off, none⟩) 4 cap, .int .i64 c, .int .i64 u]) v
      | 6 => Is (.agg #[.bool true, .int .i64 (lo 0), .int .i64 (hi 0), .int .i64 (lo 1), .int .i64 (hi 1), .int .i64 (lo 2), .int .i64 (hi 2), .int .i64 (lo 3), .int .i64 (hi 3), .int .i64 c, .int .i64 u]) v
      | 7 => Is (.agg #[.slice pa m pc]) v
      | 8 => Is (.agg #[.int .i64 12, .int .i64 d, .int .i64 (ai : Int), .int .i64 (bi : Int), .int .i64 r, .int .i64 l, .int .i64 h, .int .i64 t]) v
      | 9 => Is (.iface 177 (.agg #[.int .i64 (ai : Int)])) v
      | 10 => Is (.bool q) v
      | 11 => Is (.bool q) v
      | 12 => Is (.bool q) v
      | _ => True)
    (fun _ W => HX w V Lb W) TT
    (by kernel_rfl) (by kernel_rfl) (by kernel_rfl) (by kernel_rfl) (by kernel_rfl) rfl hS0 (fun i j v W W' _ h _ => h) ?_ ?_
  · intro i L vals W hi' hφ hS hL hd
    have hi2 : i < 13 := hi'
    clear hi'
    rcases (show i = 0 ∨ i = 1 ∨ i = 2 ∨ i = 3 ∨ i = 4 ∨ i = 5 ∨ i = 6 ∨ i = 7 ∨ i = 8 ∨ i = 9 ∨ i = 10 ∨ i = 11 ∨ i = 12 by omega) with rfl | rfl | rfl | rfl | rfl | rfl | rfl | rfl | rfl | rfl | rfl | rfl | rfl
    · have y0 := hS.cell mP (i := 0) rfl
      dsimp only at y0
      refine wpAt_of rfl rfl ?_
      simp only [frOf, Act.put]
      go_wp2_with fail
      first | exact ⟨trivial, rfl, trivial, hS⟩ | exact ⟨rfl, trivial, hS⟩ | exact ⟨trivial, rfl, trivial⟩ | exact ⟨rfl, trivial⟩ | exact rfl
    · have x0 := hS.cell mI (i := 0) rfl
      have x1 := hS.cell mI (i := 1) rfl
      have x2 := hS.cell mI (i := 2) rfl
      have x3 := hS.cell mI (i := 3) rfl
      have x4 := hS.cell mI (i := 4) rfl
      have x5 := hS.cell mI (i := 5) rfl
      have x6 := hS.cell mI (i := 6) rfl
      have x7 := hS.cell mI (i := 7) rfl
      dsimp only at x0 x1 x2 x3 x4 x5 x6 x7
      refine wpAt_of rfl rfl ?_
      simp only [frOf, Act.put]
      go_wp2_with fail
      first | exact ⟨trivial, rfl, trivial, hS⟩ | exact ⟨rfl, trivial, hS⟩ | exact ⟨trivial, rfl, trivial⟩ | exact ⟨rfl, trivial⟩ | exact rfl
    · have c0 := hS.cell mS (i := 0) rfl
      have c1 := hS.cell mS (i := 1) rfl
      have c2 := hS.cell mS (i := 2) rfl
      have c3 := hS.cell mS (i := 3) rfl
      dsimp only at c0 c1 c2 c3
      refine wpAt_of rfl rfl ?_
      simp only [frOf, Act.put]
      go_wp2_with fail
      first | exact ⟨trivial, rfl, trivial, hS⟩ | exact ⟨rfl, trivial, hS⟩ | exact ⟨trivial, rfl, trivial⟩ | exact ⟨rfl, trivial⟩ | exact rfl
    · have k0 : vals 0 = .agg #[.slice pa m pc] := hφ 0 (hd 0 (by decide))
      have k1 : vals 1 = .agg #[.int .i64 12, .int .i64 d, .int .i64 (ai : Int), .int .i64 (bi : Int), .int .i64 r, .int .i64 l, .int .i64 h, .int .i64 t] := hφ 1 (hd 1 (by decide))
      have k2 : vals 2 = .agg #[.bool true, .slice (some ⟨sb, off, none⟩) 4 cap, .int .i64 c, .int .i64 u] := hφ 2 (hd 2 (by decide))
      refine wpAt_of rfl rfl ?_
      simp only [frOf, Act.put]
      go_wp2_with fail
      refine (canI _ _ _ _ _ _ _ _ _ _ _ _ _ _ _ _ _ _ _ _ _ _ _ _ _ _ hm hN (by omega) (hP.next hS.below) (hC.next hS.below)).mono ?_
      rintro e W' ⟨rfl, hb⟩
      rw [g.out]
      go_wp2_with fail
      first | exact ⟨trivial, rfl, trivial, HX.next hb hS⟩ | exact ⟨rfl, trivial, HX.next hb hS⟩ | exact ⟨trivial, rfl, trivial⟩ | exact ⟨rfl, trivial⟩ | exact rfl
    · have k3 : vals 3 = .bool true := hφ 3 (hd 3 (by decide))
      refine wpAt_of rfl rfl ?_
      simp only [frOf, Act.put]
      go_wp2_with fail
      first | exact ⟨trivial, rfl, trivial, hS⟩ | exact ⟨rfl, trivial, hS⟩ | exact ⟨trivial, rfl, trivial⟩ | exact ⟨rfl, trivial⟩ | exact rfl
    · have k4 : vals 4 = .bool true := hφ 4 (hd 4 (by decide))
      have c0 := hS.cell mS (i := 0) rfl
      have c1 := hS.cell mS (i := 1) rfl
      have c2 := hS.cell mS (i := 2) rfl
      have c3 := hS.cell mS (i := 3) rfl
      dsimp only at c0 c1 c2 c3
      simp only [wpAt, List.getElem?_toArray, List.getElem?_cons_succ, List.getElem?_cons_zero, slotOf, frOf, Act.put]
      go_wp2_with fail
      first | exact ⟨trivial, rfl, trivial, hS⟩ | exact ⟨rfl, trivial, hS⟩ | exact ⟨trivial, rfl, trivial⟩ | exact ⟨rfl, trivial⟩ | exact rfl
    · have k4 : vals 4 = .bool true := hφ 4 (hd 4 (by decide))
      have k5 : vals 5 = .agg #[.bool true, .slice (some ⟨sb, off, none⟩) 4 cap, .int .i64 c, .int .i64 u] := hφ 5 (hd 5 (by decide))
      simp only [wpAt, List.getElem?_toArray, List.getElem?_cons_succ, List.getElem?_cons_zero, slotOf, frOf, Act.put]
      go_wp2_with fail
      refine (arrivalT _ _ _ _ _ _ _ _ _ (hC.next hS.below)).mono ?_
      rintro e W' ⟨rfl, hb⟩
      go_wp2_with fail
      first | exact ⟨trivial, rfl, trivial, HX.next hb hS⟩ | exact ⟨rfl, trivial, HX.next hb hS⟩ | exact ⟨trivial, rfl, trivial⟩ | exact ⟨rfl, trivial⟩ | exact rfl
    · have k4 : vals 4 = .bool true := hφ 4 (hd 4 (by decide))
      have y0 := hS.cell mP (i := 0) rfl
      dsimp only at y0
      simp only [wpAt, List.getElem?_toArray, List.getElem?_cons_succ, List.getElem?_cons_zero, slotOf, frOf, Act.put]
      go_wp2_with fail
      first | exact ⟨trivial, rfl, trivial, hS⟩ | exact ⟨rfl, trivial, hS⟩ | exact ⟨trivial, rfl, trivial⟩ | exact ⟨rfl, trivial⟩ | exact rfl
    · have k4 : vals 4 = .bool true := hφ 4 (hd 4 (by decide))
      have x0 := hS.cell mI (i := 0) rfl
      have x1 := hS.cell mI (i := 1) rfl
      have x2 := hS.cell mI (i := 2) rfl
      have x3 := hS.cell mI (i := 3) rfl
      have x4 := hS.cell mI (i := 4) rfl
      have x5 := hS.cell mI (i := 5) rfl
      have x6 := hS.cell mI (i := 6) rfl
      have x7 := hS.cell mI (i := 7) rfl
      dsimp only at x0 x1 x2 x3 x4 x5 x6 x7
      simp only [wpAt, List.getElem?_toArray, List.getElem?_cons_succ, List.getElem?_cons_zero, slotOf, frOf, Act.put]
      go_wp2_with fail
      first | exact ⟨trivial, rfl, trivial, hS⟩ | exact ⟨rfl, trivial, hS⟩ | exact ⟨trivial, rfl, trivial⟩ | exact ⟨rfl, trivial⟩ | exact rfl
    · have k4 : vals 4 = .bool true := hφ 4 (hd 4 (by decide))
      have k8 : vals 8 = .agg #[.int .i64 12, .int .i64 d, .int .i64 (ai : Int), .int .i64 (bi : Int), .int .i64 r, .int .i64 l, .int .i64 h, .int .i64 t] := hφ 8 (hd 8 (by decide))
      simp only [wpAt, List.getElem?_toArray, List.getElem?_cons_succ, List.getElem?_cons_zero, slotOf, frOf, Act.put]
      go_wp2_with fail
      refine (stepOfI_12 _ _ _ _ _ _ _ _ ).mono ?_
      rintro e W' ⟨rfl, hb⟩
      go_wp2_with fail
      first | exact ⟨trivial, rfl, trivial, HX.next hb hS⟩ | exact ⟨rfl, trivial, HX.next hb hS⟩ | exact ⟨trivial, rfl, trivial⟩ | exact ⟨rfl, trivial⟩ | exact rfl
    · have k4 : vals 4 = .bool true := hφ 4 (hd 4 (by decide))
      have k6 : vals 6 = .agg #[.bool true, .int .i64 (lo 0), .int .i64 (hi 0), .int .i64 (lo 1), .int .i64 (hi 1), .int .i64 (lo 2), .int .i64 (hi 2), .int .i64 (lo 3), .int .i64 (hi 3), .int .i64 c, .int .i64 u] := hφ 6 (hd 6 (by decide))
      have k7 : vals 7 = .agg #[.slice pa m pc] := hφ 7 (hd 7 (by decide))
      have k9 : vals 9 = .iface 177 (.agg #[.int .i64 (ai : Int)]) := hφ 9 (hd 9 (by decide))
      simp only [wpAt, List.getElem?_toArray, List.getElem?_cons_succ, List.getElem?_cons_zero, slotOf, frOf, Act.put]
      go_wp2_with fail
      refine (mayI_ret _ _ _ (arL true lo c) (arL true hi u) _ _ hai).mono ?_
      rintro e W' ⟨rfl, hb⟩
      simp only [hv.out]
      go_wp2_with fail
      first | exact ⟨trivial, rfl, trivial, HX.next hb hS⟩ | exact ⟨rfl, trivial, HX.next hb hS⟩ | exact ⟨trivial, rfl, trivial⟩ | exact ⟨rfl, trivial⟩ | exact rfl
    · have k4 : vals 4 = .bool true := hφ 4 (hd 4 (by decide))
      have k10 : vals 10 = .bool q := hφ 10 (hd 10 (by decide))
      refine wpAt_of rfl rfl ?_
      simp only [frOf, Act.put]
      go_wp2_with fail
      first | exact ⟨trivial, rfl, trivial, hS⟩ | exact ⟨rfl, trivial, hS⟩ | exact ⟨trivial, rfl, trivial⟩ | exact ⟨rfl, trivial⟩ | exact rfl
    · have k11 : vals 11 = .bool q := hφ 11 (hd 11 (by decide))
      refine wpAt_of rfl rfl ?_
      simp only [frOf, Act.put]
      go_wp2_with fail
      first | exact ⟨trivial, rfl, trivial, hS⟩ | exact ⟨rfl, trivial, hS⟩ | exact ⟨trivial, rfl, trivial⟩ | exact ⟨rfl, trivial⟩ | exact rfl
  · intro L vals W hall hφ hS
    have k0 : vals 0 = .agg #[.slice pa m pc] := hφ 0 (by decide)
    have k1 : vals 1 = .agg #[.int .i64 12, .int .i64 d, .int .i64 (ai : Int), .int .i64 (bi : Int), .int .i64 r, .int .i64 l, .int .i64 h, .int .i64 t] := hφ 1 (by decide)
    have k2 : vals 2 = .agg #[.bool true, .slice (some ⟨sb, off, none⟩) 4 cap, .int .i64 c, .int .i64 u] := hφ 2 (by decide)
    have k3 : vals 3 = .bool true := hφ 3 (by decide)
    have k4 : vals 4 = .bool true := hφ 4 (by decide)
    have k5 : vals 5 = .agg #[.bool true, .slice (some ⟨sb, off, none⟩) 4 cap, .int .i64 c, .int .i64 u] := hφ 5 (by decide)
    have k6 : vals 6 = .agg #[.bool true, .int .i64 (lo 0), .int .i64 (hi 0), .int .i64 (lo 1), .int .i64 (hi 1), .int .i64 (lo 2), .int .i64 (hi 2), .int .i64 (lo 3), .int .i64 (hi 3), .int .i64 c, .int .i64 u] := hφ 6 (by decide)
    have k7 : vals 7 = .agg #[.slice pa m pc] := hφ 7 (by decide)
    have k8 : vals 8 = .agg #[.int .i64 12, .int .i64 d, .int .i64 (ai : Int), .int .i64 (bi : Int), .int .i64 r, .int .i64 l, .int .i64 h, .int .i64 t] := hφ 8 (by decide)
    have k9 : vals 9 = .iface 177 (.agg #[.int .i64 (ai : Int)]) := hφ 9 (by decide)
    have k10 : vals 10 = .bool q := hφ 10 (by decide)
    have k11 : vals 11 = .bool q := hφ 11 (by decide)
    have k12 : vals 12 = .bool q := hφ 12 (by decide)
    simp only [frOf, Act.put, List.setIfInBounds_toArray, List.set_cons_succ, List.set_cons_zero, k0, k1, k2, k3, k4, k5, k6, k7, k8, k9, k10, k11, k12]
    clear k0 k1 k2 k3 k4 k5 k6 k7 k8 k9 k10 k11 k12 hall hφ hS0
    have H := hS.1
    go_wp2_with fail
    go_ret
    exact ⟨rfl, H.below⟩
set_option maxRecDepth 10000 in
set_option maxHeartbeats 4000000 in
theorem absFailsI (pa : Option Addr) (pb po m pc : Nat) (P : Nat → Proc) (S : Nat → Spot) (o d a b r l h t : Int) (on : Bool) (sa : Option Addr) (sb off n cap : Nat) (lo hi : Nat → Int) (c u : Int) (w : World) (hm : m ≤ 1048576) (hN : ∀ i, i < m → (P i).n ≤ 1048576) (hn : n ≤ 1048576) (hP : ProcsAt pa pb po m P S w) (hC : BndsAt sa sb off n lo hi w) :
    Calls Try.prog 37 #[.agg #[.slice pa m pc], .agg #[.int .i64 o, .int .i64 d, .int .i64 a, .int .i64 b, .int .i64 r, .int .i64 l, .int .i64 h, .int .i64 t], .agg #[.bool on, .slice sa n cap, .int .i64 c, .int .i64 u]] w fun e w' => e = .returned (.bool (absFails P m o d a b r l h t on n lo hi c u)) ∧ Below w.heap.size w w' := by
  cases g : canStep P m o d a b r l h t on n lo hi c u
  · have hF : absFails P m o d a b r l h t on n lo hi c u = false := by simp [absFails, g]
    rw [hF]
    exact absFailsI_f _ _ _ _ _ _ _ _ _ _ _ _ _ _ _ _ _ _ _ _ _ _ _ _ _ _ hm hN hn hP hC g
  · have hF : absFails P m o d a b r l h t on n lo hi c u = failB o r a.toNat b.toNat t.toNat lo hi P := by simp [absFails, g]
    rw [hF]
    obtain ⟨rfl, rfl, ⟨ai, hai, rfl⟩, ⟨bi, hbi, rfl⟩, _, ht, _, ho⟩ := canStep_at g
    have es := hC.at_ (by omega)
    subst es
    simp only [Int.toNat_natCast]
    clear hF
    rcases (show o = 1 ∨ o = 2 ∨ o = 3 ∨ o = 4 ∨ o = 5 ∨ o = 6 ∨ o = 7 ∨ o = 8 ∨ o = 9 ∨ o = 10 ∨ o = 11 ∨ o = 12 by omega) with rfl | rfl | rfl | rfl | rfl | rfl | rfl | rfl | rfl | rfl | rfl | rfl
    · exact absFailsI_1 _ _ _ _ _ _ _ _ _ _ _ _ _ _ _ _ _ _ _ _ _ _ hm hN hP hC hai hbi g
    · exact absFailsI_2 _ _ _ _ _ _ _ _ _ _ _ _ _ _ _ _ _ _ _ _ _ _ hm hN hP hC hai hbi g
    · exact absFailsI_3 _ _ _ _ _ _ _ _ _ _ _ _ _ _ _ _ _ _ _ _ _ _ hm hN hP hC hai hbi g
    · exact absFailsI_4 _ _ _ _ _ _ _ _ _ _ _ _ _ _ _ _ _ _ _ _ _ _ hm hN hP hC hai hbi g
    · exact absFailsI_5 _ _ _ _ _ _ _ _ _ _ _ _ _ _ _ _ _ _ _ _ _ _ hm hN hP hC hai hbi g
    · exact absFailsI_6 _ _ _ _ _ _ _ _ _ _ _ _ _ _ _ _ _ _ _ _ _ _ hm hN hP hC hai hbi g
    · exact absFailsI_7 _ _ _ _ _ _ _ _ _ _ _ _ _ _ _ _ _ _ _ _ _ _ hm hN hP hC hai hbi g
    · exact absFailsI_8 _ _ _ _ _ _ _ _ _ _ _ _ _ _ _ _ _ _ _ _ _ _ hm hN hP hC hai hbi g
    · exact absFailsI_9 _ _ _ _ _ _ _ _ _ _ _ _ _ _ _ _ _ _ _ _ _ _ hm hN hP hC hai hbi g
    · obtain ⟨ti, hti, rfl⟩ := ht rfl
      have ep := hP.at_ (by omega)
      subst ep
      simp only [Int.toNat_natCast]
      exact absFailsI_10 _ _ _ _ _ _ _ _ _ _ _ _ _ _ _ _ _ _ _ _ _ hm hN hP hC hai hbi hti g
    · exact absFailsI_11 _ _ _ _ _ _ _ _ _ _ _ _ _ _ _ _ _ _ _ _ _ _ hm hN hP hC hai hbi g
    · exact absFailsI_12 _ _ _ _ _ _ _ _ _ _ _ _ _ _ _ _ _ _ _ _ _ _ hm hN hP hC hai hbi g
end Go.Proofs.Ytdpkbbbfnmneiaa
