/- What the drawing of steps answers over a reader: some step. -/
import Derived.Test.YtiehokibfdaleaaDrawEight
import Derived.Test.YtiehokibfdaleaaDrawItvA
import Derived.Deep.DeepCutAuto
import Derived.Deep.CutBlock
namespace Go.Proofs.Ytiehokibfdaleaa
open Go.ChangeShapes Go.WideShapes Go.ChangeAt Go.RowKit

set_option maxRecDepth 10000 in
set_option maxHeartbeats 40000000 in
theorem insD (R : Nat) (a : Option Addr) (m c : Nat) (z : Nat → Int) (p : Nat) (procs size : Int) (w : World) (h : Rd w R a m c z p) (hp : p < 500000) (hp1 : 1 ≤ procs) (hp2 : procs ≤ 100000) (hs1 : 1 ≤ size) (hs2 : size ≤ 100000) :
    Calls Try.prog 54 #[.pointer (some ⟨R, 0, none⟩), .int .i64 procs, .int .i64 size] w (DIns R a m c z p w) := by
  have hRs := h.size
  have ho := old_rd h
  have i0 : IsI (.int .i64 0) := ⟨0, rfl, by constructor <;> omega⟩
  have Da : Dr w R a m c z p [] w := ⟨⟨p, Nat.le_refl _, h⟩, grown_refl _ _, Fs.nil _ _ _⟩
  have Db := Da.new8 (t := 81) i0 i0 i0 i0 i0 i0 i0 i0
  have Dc := Db.new8 (t := 81) i0 i0 i0 i0 i0 i0 i0 i0
  have es : (w.alloc (.cells #[.int .i64 0, .int .i64 0, .int .i64 0, .int .i64 0, .int .i64 0, .int .i64 0, .int .i64 0, .int .i64 0] 81)).heap.size = w.heap.size + 1 := by simp
  rw [es] at Dc
  clear Da Db es
  obtain ⟨F, hF⟩ : ∃ F : List Sp, F = ⟨w.heap.size + 1, 0, IsI⟩ :: ⟨w.heap.size + 1, 1, IsI⟩ :: ⟨w.heap.size + 1, 2, IsI⟩ :: ⟨w.heap.size + 1, 3, IsI⟩ :: ⟨w.heap.size + 1, 4, IsI⟩ :: ⟨w.heap.size + 1, 5, IsI⟩ :: ⟨w.heap.size + 1, 6, IsI⟩ :: ⟨w.heap.size + 1, 7, IsI⟩ :: ⟨w.heap.size, 0, IsI⟩ :: ⟨w.heap.size, 1, IsI⟩ :: ⟨w.heap.size, 2, IsI⟩ :: ⟨w.heap.size, 3, IsI⟩ :: ⟨w.heap.size, 4, IsI⟩ :: ⟨w.heap.size, 5, IsI⟩ :: ⟨w.heap.size, 6, IsI⟩ :: ⟨w.heap.size, 7, IsI⟩ :: [] := ⟨_, rfl⟩
  rw [← hF] at Dc
  have mO : ∀ i, i < 8 → (⟨w.heap.size, i, IsI⟩ : Sp) ∈ F := by
    intro i hi
    rw [hF]
    rcases (show i = 0 ∨ i = 1 ∨ i = 2 ∨ i = 3 ∨ i = 4 ∨ i = 5 ∨ i = 6 ∨ i = 7 by omega) with rfl | rfl | rfl | rfl | rfl | rfl | rfl | rfl <;> simp
  have mI : ∀ i, i < 8 → (⟨w.heap.size + 1, i, IsI⟩ : Sp) ∈ F := by
    intro i hi
    rw [hF]
    rcases (show i = 0 ∨ i = 1 ∨ i = 2 ∨ i = 3 ∨ i = 4 ∨ i = 5 ∨ i = 6 ∨ i = 7 by omega) with rfl | rfl | rfl | rfl | rfl | rfl | rfl | rfl <;> simp
  have hFA : ∀ v, IsI v → ∀ f ∈ F, f.P v := by
    intro v hv f hf
    rw [hF] at hf
    simp only [List.mem_cons, List.not_mem_nil, or_false] at hf
    rcases hf with rfl | rfl | rfl | rfl | rfl | rfl | rfl | rfl | rfl | rfl | rfl | rfl | rfl | rfl | rfl | rfl <;> exact hv
  have hFB : ∀ v, IsI v → ∀ f ∈ F, f.b = w.heap.size + 1 → f.P v := fun v hv f hf _ => hFA v hv f hf
  have hFO : ∀ v, IsI v → ∀ f ∈ F, f.b = w.heap.size → f.P v := fun v hv f hf _ => hFA v hv f hf
  have hBR : w.heap.size + 1 ≠ R := by omega
  have hOR : w.heap.size ≠ R := by omega
  have hBw : w.heap.size ≤ w.heap.size + 1 := Nat.le_succ _
  have hBin : ∀ {K n : Nat} {L : Nat → Bool} {Q : Nat} W, DS w R a m c z Q K n F L W → w.heap.size + 1 < W.heap.size := fun W hS => (hS.fs _ (mI 0 (by omega))).2.2.1
  clear hF i0
  obtain ⟨p0, hp0, hr0⟩ := Dc.rd
  go_enter Try.func54, Try.ntmps54
  go_wp2_with fail
  refine (pick R a m c z p0 12 _ hr0 (by omega) (by omega) (by omega)).mono ?_
  rintro e w1 ⟨x, hx, hx', rfl, h1, g1⟩
  have D1 : Dr w R a m c z (p + 1) F w1 := Dc.next h1 g1 (by omega)
  clear Dc hr0 h1 g1 h
  go_upto_block 0 with fail
  go_cut [7] (fun v W => v = .pointer (some ⟨w.heap.size + 1, 0, none⟩) ∧ Dr w R a m c z (p + 45) F W)
  case first =>
    obtain rfl | rfl | rfl | rfl | rfl | rfl | rfl | rfl | rfl | rfl | rfl | rfl : x = 0 ∨ x = 1 ∨ x = 2 ∨ x = 3 ∨ x = 4 ∨ x = 5 ∨ x = 6 ∨ x = 7 ∨ x = 8 ∨ x = 9 ∨ x = 10 ∨ x = 11 := by omega
    · obtain ⟨pn, hpn, hrn⟩ := D1.rd
      go_wp2_with fail
      refine (numS R a m c z pn _ hrn (by omega)).mono ?_
      rintro e Wn ⟨xn, pn', hxn, hxn', rfl, hpn', hn', gn'⟩
      have En : Dr w R a m c z (p + 10) F Wn := D1.next hn' gn' (by omega)
      clear D1 hrn hn' gn'
      obtain ⟨p0', hp0', hr0'⟩ := En.rd
      go_wp2_with fail
      refine (pick R a m c z p0' 4 _ hr0' (by omega) (by omega) (by omega)).mono ?_
      rintro e W0 ⟨y0, hy0, hy0', rfl, h0', g0'⟩
      have E0 : Dr w R a m c z (p + 11) F W0 := En.next h0' g0' (by omega)
      clear En hr0' h0' g0'
      obtain ⟨q0, q1, q2, q3, q4, q5, q6, q7, ⟨c0, c1, c2, c3, c4, c5, c6, c7⟩, _⟩ := E0.at8 mI
      obtain ⟨f0, f1, f2, f3, f4, f5, f6, f7⟩ := E0.free8 mI
      go_wp2_with fail
      go_meet
      exact ⟨rfl, (E0.set8 ho hBR hBw hFB ⟨_, rfl, by constructor <;> omega⟩ ⟨_, rfl, by constructor <;> omega⟩ ⟨_, rfl, by constructor <;> omega⟩ ⟨_, rfl, by constructor <;> omega⟩ ⟨_, rfl, by constructor <;> omega⟩ ⟨_, rfl, by constructor <;> omega⟩ ⟨_, rfl, by constructor <;> omega⟩ ⟨_, rfl, by constructor <;> omega⟩).more (by omega)⟩
    · obtain ⟨pn, hpn, hrn⟩ := D1.rd
      go_wp2_with fail
      refine (numS R a m c z pn _ hrn (by omega)).mono ?_
      rintro e Wn ⟨xn, pn', hxn, hxn', rfl, hpn', hn', gn'⟩
      have En : Dr w R a m c z (p + 10) F Wn := D1.next hn' gn' (by omega)
      clear D1 hrn hn' gn'
      obtain ⟨p0', hp0', hr0'⟩ := En.rd
      go_wp2_with fail
      refine (pick R a m c z p0' 4 _ hr0' (by omega) (by omega) (by omega)).mono ?_
      rintro e W0 ⟨y0, hy0, hy0', rfl, h0', g0'⟩
      have E0 : Dr w R a m c z (p + 11) F W0 := En.next h0' g0' (by omega)
      clear En hr0' h0' g0'
      obtain ⟨q0, q1, q2, q3, q4, q5, q6, q7, ⟨c0, c1, c2, c3, c4, c5, c6, c7⟩, _⟩ := E0.at8 mI
      obtain ⟨f0, f1, f2, f3, f4, f5, f6, f7⟩ := E0.free8 mI
      go_wp2_with fail
      go_meet
      exact ⟨rfl, (E0.set8 ho hBR hBw hFB ⟨_, rfl, by constructor <;> omega⟩ ⟨_, rfl, by constructor <;> omega⟩ ⟨_, rfl, by constructor <;> omega⟩ ⟨_, rfl, by constructor <;> omega⟩ ⟨_, rfl, by constructor <;> omega⟩ ⟨_, rfl, by constructor <;> omega⟩ ⟨_, rfl, by constructor <;> omega⟩ ⟨_, rfl, by constructor <;> omega⟩).more (by omega)⟩
    · obtain ⟨pn, hpn, hrn⟩ := D1.rd
      go_wp2_with fail
      refine (itvDA R a m c z pn 99999 _ hrn (by omega) (by omega)).mono ?_
      rintro e Wn ⟨xl, xh, pn', hxl, hxh, rfl, hpn', hn', gn'⟩
      have En : Dr w R a m c z (p + 30) F Wn := D1.next hn' gn' (by omega)
      have Eo := En.new (P := IsI) (P' := IsI) (x := .int .i64 xl) (y := .int .i64 xh) (t := 25) ⟨_, rfl, hxl⟩ ⟨_, rfl, hxh⟩
      obtain ⟨X, hX⟩ : ∃ X, X = Wn.heap.size := ⟨_, rfl⟩
      rw [← hX] at Eo
      have hXS : Hid (X = Wn.heap.size) := hX
      clear hX D1 En hrn hn' gn'
      obtain ⟨G, hG⟩ : ∃ G : List Sp, G = ⟨X, 0, IsI⟩ :: ⟨X, 1, IsI⟩ :: F := ⟨_, rfl⟩
      rw [← hG] at Eo
      have mX0 : (⟨X, 0, IsI⟩ : Sp) ∈ G := by rw [hG]; simp
      have mX1 : (⟨X, 1, IsI⟩ : Sp) ∈ G := by rw [hG]; simp
      have upG : ∀ f, f ∈ F → f ∈ G := fun f hf => by rw [hG]; simp [hf]
      have mIG : ∀ i, i < 8 → (⟨w.heap.size + 1, i, IsI⟩ : Sp) ∈ G := fun i hi => upG _ (mI i hi)
      have hGB : ∀ v, IsI v → ∀ f ∈ G, f.b = w.heap.size + 1 → f.P v := by
        intro v hv f hf hb
        rw [hG] at hf
        simp only [List.mem_cons] at hf
        rcases hf with rfl | rfl | hf
        · exact hv
        · exact hv
        · exact hFB v hv f hf hb
      have hS0 : DS w R a m c z (p + 30) 1 8 G (fun _ => false) (Wn.alloc (.cells #[.int .i64 xl, .int .i64 xh] 25)).drew := DS.start Eo.drew
      clear Eo hG
      go_wp2_with fail
      rw [← hXS.out]
      clear hXS
      refine region_inv3 [(0, 35), (1, 36), (2, 37), (3, 38), (4, 39), (5, 40), (6, 41)]
        (fun j v W => match j with
          | 0 => Is (.pointer (some ⟨R, 0, none⟩)) v
          | 1 => Nt (4) v
          | 2 => Is (.pointer (some ⟨X, 0, none⟩)) v
          | 3 => IsI v
          | 4 => Is (.pointer (some ⟨X, 1, none⟩)) v
          | 5 => IsI v
          | 6 => IsIns v
          | _ => True)
        (DS w R a m c z (p + 30) 1 8 G) (Kp R (w.heap.size + 1))
        (by kernel_rfl) (by kernel_rfl) (by kernel_rfl) (by kernel_rfl) (by kernel_rfl) rfl hS0 ?_ ?_ ?_
      · intro i j v W W' hji hφ hT
        match j, hji, hφ with
        | 0, _, hφ => exact hφ
        | 1, _, hφ => exact hφ
        | 2, _, hφ => exact hφ
        | 3, _, hφ => exact hφ
        | 4, _, hφ => exact hφ
        | 5, _, hφ => exact hφ
        | 6, _, hφ => exact hφ
        | 7, _, hφ => exact hφ
        | _ + 8, _, _ => trivial
      · intro i L vals W hi' hφ hS hL hd
        have hi2 : i < 8 := hi'
        clear hi'
        have hbd := DS.bd (K := 1) (n := 8) (L := L)
        obtain ⟨p', hp', hr⟩ := hS.rd
        have hrs := hr.size
        rcases (show i = 0 ∨ i = 1 ∨ i = 2 ∨ i = 3 ∨ i = 4 ∨ i = 5 ∨ i = 6 ∨ i = 7 by omega) with rfl | rfl | rfl | rfl | rfl | rfl | rfl | rfl
        · refine wpAt_of rfl rfl ?_
          simp only [frOf, Act.put]
          go_wp2_with fail
          first | exact ⟨trivial, rfl, Kp.refl _ _ _ _, hS.pure hL (by decide)⟩ | exact ⟨rfl, Kp.refl _ _ _ _, hS.pure hL (by decide)⟩
        · have k0 : vals 0 = .pointer (some ⟨R, 0, none⟩) := hφ 0 (hd 0 (by decide))
          refine wpAt_of rfl rfl ?_
          simp only [frOf, Act.put]
          go_wp2_with fail
          refine (pick R a m c z p' (4) _ hr (by omega) (by omega) (by omega)).mono ?_
          rintro e W' ⟨x, hx1, hx2, rfl, hR', g⟩
          go_wp2_with fail
          first | exact ⟨trivial, ⟨x, hx1, hx2, rfl⟩, Kp.of g, DS.call hS hL (by decide) hR' g (by omega)⟩ | exact ⟨⟨x, hx1, hx2, rfl⟩, Kp.of g, DS.call hS hL (by decide) hR' g (by omega)⟩
        · refine wpAt_of rfl rfl ?_
          simp only [frOf, Act.put]
          go_wp2_with fail
          first | exact ⟨trivial, rfl, Kp.refl _ _ _ _, hS.pure hL (by decide)⟩ | exact ⟨rfl, Kp.refl _ _ _ _, hS.pure hL (by decide)⟩
        · have k2 : vals 2 = .pointer (some ⟨X, 0, none⟩) := hφ 2 (hd 2 (by decide))
          obtain ⟨_, cX, y, rfl, hy⟩ := hS.has mX0
          dsimp only at cX
          refine wpAt_of rfl rfl ?_
          simp only [frOf, Act.put]
          go_wp2_with fail
          first | exact ⟨trivial, ⟨y, rfl, hy⟩, Kp.refl _ _ _ _, hS.pure hL (by decide)⟩ | exact ⟨⟨y, rfl, hy⟩, Kp.refl _ _ _ _, hS.pure hL (by decide)⟩
        · refine wpAt_of rfl rfl ?_
          simp only [frOf, Act.put]
          go_wp2_with fail
          first | exact ⟨trivial, rfl, Kp.refl _ _ _ _, hS.pure hL (by decide)⟩ | exact ⟨rfl, Kp.refl _ _ _ _, hS.pure hL (by decide)⟩
        · have k4 : vals 4 = .pointer (some ⟨X, 1, none⟩) := hφ 4 (hd 4 (by decide))
          obtain ⟨_, cX, y, rfl, hy⟩ := hS.has mX1
          dsimp only at cX
          refine wpAt_of rfl rfl ?_
          simp only [frOf, Act.put]
          go_wp2_with fail
          first | exact ⟨trivial, ⟨y, rfl, hy⟩, Kp.refl _ _ _ _, hS.pure hL (by decide)⟩ | exact ⟨⟨y, rfl, hy⟩, Kp.refl _ _ _ _, hS.pure hL (by decide)⟩
        · obtain ⟨n1, l1, h1, k1⟩ : Nt (4) (vals 1) := hφ 1 (hd 1 (by decide))
          obtain ⟨n3, k3, ⟨l3, h3⟩⟩ : IsI (vals 3) := hφ 3 (hd 3 (by decide))
          obtain ⟨n5, k5, ⟨l5, h5⟩⟩ : IsI (vals 5) := hφ 5 (hd 5 (by decide))
          refine wpAt_of rfl rfl ?_
          simp only [frOf, Act.put]
          go_wp2_with fail
          first | exact ⟨trivial, ⟨_, _, _, _, _, _, _, _, rfl, by constructor <;> omega, by constructor <;> omega, by constructor <;> omega, by constructor <;> omega, by constructor <;> omega, by constructor <;> omega, by constructor <;> omega, by constructor <;> omega⟩, Kp.refl _ _ _ _, hS.pure hL (by decide)⟩ | exact ⟨⟨_, _, _, _, _, _, _, _, rfl, by constructor <;> omega, by constructor <;> omega, by constructor <;> omega, by constructor <;> omega, by constructor <;> omega, by constructor <;> omega, by constructor <;> omega, by constructor <;> omega⟩, Kp.refl _ _ _ _, hS.pure hL (by decide)⟩
        · obtain ⟨o6_0, o6_1, o6_2, o6_3, o6_4, o6_5, o6_6, o6_7, k6, i6_0, i6_1, i6_2, i6_3, i6_4, i6_5, i6_6, i6_7⟩ : IsIns (vals 6) := hφ 6 (hd 6 (by decide))
          obtain ⟨y0, y1, y2, y3, y4, y5, y6, y7, ⟨c0, c1, c2, c3, c4, c5, c6, c7⟩, _⟩ := Dr.at8 hS mIG
          obtain ⟨f0, f1, f2, f3, f4, f5, f6, f7⟩ := Dr.free8 hS mIG
          refine wpAt_none rfl rfl ?_
          simp only [frOf, Act.put]
          go_wp2_with fail
          first | exact ⟨trivial, trivial, Kp.set8, DS.set8 hS hL (by decide) ho hBR hBw hGB ⟨_, rfl, i6_0⟩ ⟨_, rfl, i6_1⟩ ⟨_, rfl, i6_2⟩ ⟨_, rfl, i6_3⟩ ⟨_, rfl, i6_4⟩ ⟨_, rfl, i6_5⟩ ⟨_, rfl, i6_6⟩ ⟨_, rfl, i6_7⟩⟩ | exact ⟨trivial, Kp.set8, DS.set8 hS hL (by decide) ho hBR hBw hGB ⟨_, rfl, i6_0⟩ ⟨_, rfl, i6_1⟩ ⟨_, rfl, i6_2⟩ ⟨_, rfl, i6_3⟩ ⟨_, rfl, i6_4⟩ ⟨_, rfl, i6_5⟩ ⟨_, rfl, i6_6⟩ ⟨_, rfl, i6_7⟩⟩ | exact ⟨trivial, Kp.set8, DS.set8 hS hL (by decide) ho hBR hBw hGB ⟨_, rfl, i6_0⟩ ⟨_, rfl, i6_1⟩ ⟨_, rfl, i6_2⟩ ⟨_, rfl, i6_3⟩ ⟨_, rfl, i6_4⟩ ⟨_, rfl, i6_5⟩ ⟨_, rfl, i6_6⟩ ⟨_, rfl, i6_7⟩⟩ | exact ⟨Kp.set8, DS.set8 hS hL (by decide) ho hBR hBw hGB ⟨_, rfl, i6_0⟩ ⟨_, rfl, i6_1⟩ ⟨_, rfl, i6_2⟩ ⟨_, rfl, i6_3⟩ ⟨_, rfl, i6_4⟩ ⟨_, rfl, i6_5⟩ ⟨_, rfl, i6_6⟩ ⟨_, rfl, i6_7⟩⟩
      · intro L vals W hall hφ hS'
        have hS := hS'.done
        clear hS' hS0
        simp only [frOf, Act.put, List.setIfInBounds_toArray, List.set_cons_succ, List.set_cons_zero]
        go_wp2_with fail
        go_meet
        exact ⟨rfl, ⟨(hS.more (by omega)).rd, hS.grown, fun f hf => hS.fs f (upG f hf)⟩⟩
    · have hS0 : DS w R a m c z (p + 1) 1 13 F (fun _ => false) w1.drew := DS.start D1.drew
      clear D1
      go_wp2_with fail
      refine region_inv3 [(0, 46), (1, 47), (2, 48), (3, 49), (4, 50), (5, 51), (6, 52), (7, 53), (8, 54), (9, 55), (10, 56), (11, 57)]
        (fun j v W => match j with
          | 0 => TabN R (w.heap.size + 1) 5 v W
          | 1 => Is (.pointer (some ⟨R, 0, none⟩)) v
          | 2 => Nt (5) v
          | 3 => Spt R (w.heap.size + 1) v W
          | 4 => IsI v
          | 5 => Is (.pointer (some ⟨R, 0, none⟩)) v
          | 6 => Nt (4) v
          | 7 => Is (.pointer (some ⟨R, 0, none⟩)) v
          | 8 => Nt (4) v
          | 9 => Is (.pointer (some ⟨R, 0, none⟩)) v
          | 10 => Nt (4) v
          | 11 => IsIns v
          | _ => True)
        (DS w R a m c z (p + 1) 1 13 F) (Kp R (w.heap.size + 1))
        (by kernel_rfl) (by kernel_rfl) (by kernel_rfl) (by kernel_rfl) (by kernel_rfl) rfl hS0 ?_ ?_ ?_
      · intro i j v W W' hji hφ hT
        match j, hji, hφ with
        | 0, _, hφ => exact TabN.next hφ hT
        | 1, _, hφ => exact hφ
        | 2, _, hφ => exact hφ
        | 3, _, hφ => exact Spt.next hφ hT
        | 4, _, hφ => exact hφ
        | 5, _, hφ => exact hφ
        | 6, _, hφ => exact hφ
        | 7, _, hφ => exact hφ
        | 8, _, hφ => exact hφ
        | 9, _, hφ => exact hφ
        | 10, _, hφ => exact hφ
        | 11, _, hφ => exact hφ
        | 12, _, hφ => exact hφ
        | _ + 13, _, _ => trivial
      · intro i L vals W hi' hφ hS hL hd
        have hi2 : i < 13 := hi'
        clear hi'
        have hbd := DS.bd (K := 1) (n := 13) (L := L)
        obtain ⟨p', hp', hr⟩ := hS.rd
        have hrs := hr.size
        rcases (show i = 0 ∨ i = 1 ∨ i = 2 ∨ i = 3 ∨ i = 4 ∨ i = 5 ∨ i = 6 ∨ i = 7 ∨ i = 8 ∨ i = 9 ∨ i = 10 ∨ i = 11 ∨ i = 12 by omega) with rfl | rfl | rfl | rfl | rfl | rfl | rfl | rfl | rfl | rfl | rfl | rfl | rfl
        · have hBlt : (w.heap.size + 1) < W.heap.size := hBin W hS
          refine wpAt_of rfl rfl ?_
          simp only [frOf, Act.put]
          go_wp2_with fail
          first | exact ⟨trivial, tabN_of hrs hBlt rfl (by kernel_rfl), Kp.of (World.grownBy_alloc _ _ _), DS.alloc hS hL (by decide) _⟩ | exact ⟨tabN_of hrs hBlt rfl (by kernel_rfl), Kp.of (World.grownBy_alloc _ _ _), DS.alloc hS hL (by decide) _⟩
        · refine wpAt_of rfl rfl ?_
          simp only [frOf, Act.put]
          go_wp2_with fail
          first | exact ⟨trivial, rfl, Kp.refl _ _ _ _, hS.pure hL (by decide)⟩ | exact ⟨rfl, Kp.refl _ _ _ _, hS.pure hL (by decide)⟩
        · have k1 : vals 1 = .pointer (some ⟨R, 0, none⟩) := hφ 1 (hd 1 (by decide))
          refine wpAt_of rfl rfl ?_
          simp only [frOf, Act.put]
          go_wp2_with fail
          refine (pick R a m c z p' (5) _ hr (by omega) (by omega) (by omega)).mono ?_
          rintro e W' ⟨x, hx1, hx2, rfl, hR', g⟩
          go_wp2_with fail
          first | exact ⟨trivial, ⟨x, hx1, hx2, rfl⟩, Kp.of g, DS.call hS hL (by decide) hR' g (by omega)⟩ | exact ⟨⟨x, hx1, hx2, rfl⟩, Kp.of g, DS.call hS hL (by decide) hR' g (by omega)⟩
        · obtain ⟨g0, k0, t10, t20, t30, t40⟩ : TabN R (w.heap.size + 1) 5 (vals 0) W := hφ 0 (hd 0 (by decide))
          obtain ⟨n2, l2, h2, k2⟩ : Nt (5) (vals 2) := hφ 2 (hd 2 (by decide))
          obtain ⟨kk, rfl⟩ := Int.eq_ofNat_of_zero_le l2
          obtain ⟨y, cy, hy⟩ := t40 kk (by omega)
          have tn : ((kk : Int)).toNat = kk := by omega
          refine wpAt_of rfl rfl ?_
          simp only [frOf, Act.put]
          go_wp2_with fail
          first | exact ⟨trivial, ⟨g0, kk, rfl, t10, t20, t30, y, cy, hy⟩, Kp.refl _ _ _ _, hS.pure hL (by decide)⟩ | exact ⟨⟨g0, kk, rfl, t10, t20, t30, y, cy, hy⟩, Kp.refl _ _ _ _, hS.pure hL (by decide)⟩
        · obtain ⟨g3, j3, k3, s13, s23, s33, y3, s43, s53⟩ : Spt R (w.heap.size + 1) (vals 3) W := hφ 3 (hd 3 (by decide))
          refine wpAt_of rfl rfl ?_
          simp only [frOf, Act.put]
          go_wp2_with fail
          first | exact ⟨trivial, ⟨_, rfl, by assumption⟩, Kp.refl _ _ _ _, hS.pure hL (by decide)⟩ | exact ⟨⟨_, rfl, by assumption⟩, Kp.refl _ _ _ _, hS.pure hL (by decide)⟩
        · refine wpAt_of rfl rfl ?_
          simp only [frOf, Act.put]
          go_wp2_with fail
          first | exact ⟨trivial, rfl, Kp.refl _ _ _ _, hS.pure hL (by decide)⟩ | exact ⟨rfl, Kp.refl _ _ _ _, hS.pure hL (by decide)⟩
        · have k5 : vals 5 = .pointer (some ⟨R, 0, none⟩) := hφ 5 (hd 5 (by decide))
          refine wpAt_of rfl rfl ?_
          simp only [frOf, Act.put]
          go_wp2_with fail
          refine (pick R a m c z p' (4) _ hr (by omega) (by omega) (by omega)).mono ?_
          rintro e W' ⟨x, hx1, hx2, rfl, hR', g⟩
          go_wp2_with fail
          first | exact ⟨trivial, ⟨x, hx1, hx2, rfl⟩, Kp.of g, DS.call hS hL (by decide) hR' g (by omega)⟩ | exact ⟨⟨x, hx1, hx2, rfl⟩, Kp.of g, DS.call hS hL (by decide) hR' g (by omega)⟩
        · refine wpAt_of rfl rfl ?_
          simp only [frOf, Act.put]
          go_wp2_with fail
          first | exact ⟨trivial, rfl, Kp.refl _ _ _ _, hS.pure hL (by decide)⟩ | exact ⟨rfl, Kp.refl _ _ _ _, hS.pure hL (by decide)⟩
        · have k7 : vals 7 = .pointer (some ⟨R, 0, none⟩) := hφ 7 (hd 7 (by decide))
          refine wpAt_of rfl rfl ?_
          simp only [frOf, Act.put]
          go_wp2_with fail
          refine (pick R a m c z p' (4) _ hr (by omega) (by omega) (by omega)).mono ?_
          rintro e W' ⟨x, hx1, hx2, rfl, hR', g⟩
          go_wp2_with fail
          first | exact ⟨trivial, ⟨x, hx1, hx2, rfl⟩, Kp.of g, DS.call hS hL (by decide) hR' g (by omega)⟩ | exact ⟨⟨x, hx1, hx2, rfl⟩, Kp.of g, DS.call hS hL (by decide) hR' g (by omega)⟩
        · refine wpAt_of rfl rfl ?_
          simp only [frOf, Act.put]
          go_wp2_with fail
          first | exact ⟨trivial, rfl, Kp.refl _ _ _ _, hS.pure hL (by decide)⟩ | exact ⟨rfl, Kp.refl _ _ _ _, hS.pure hL (by decide)⟩
        · have k9 : vals 9 = .pointer (some ⟨R, 0, none⟩) := hφ 9 (hd 9 (by decide))
          refine wpAt_of rfl rfl ?_
          simp only [frOf, Act.put]
          go_wp2_with fail
          refine (pick R a m c z p' (4) _ hr (by omega) (by omega) (by omega)).mono ?_
          rintro e W' ⟨x, hx1, hx2, rfl, hR', g⟩
          go_wp2_with fail
          first | exact ⟨trivial, ⟨x, hx1, hx2, rfl⟩, Kp.of g, DS.call hS hL (by decide) hR' g (by omega)⟩ | exact ⟨⟨x, hx1, hx2, rfl⟩, Kp.of g, DS.call hS hL (by decide) hR' g (by omega)⟩
        · obtain ⟨n4, k4, ⟨l4, h4⟩⟩ : IsI (vals 4) := hφ 4 (hd 4 (by decide))
          obtain ⟨n6, l6, h6, k6⟩ : Nt (4) (vals 6) := hφ 6 (hd 6 (by decide))
          obtain ⟨n8, l8, h8, k8⟩ : Nt (4) (vals 8) := hφ 8 (hd 8 (by decide))
          obtain ⟨n10, l10, h10, k10⟩ : Nt (4) (vals 10) := hφ 10 (hd 10 (by decide))
          refine wpAt_of rfl rfl ?_
          simp only [frOf, Act.put]
          go_wp2_with fail
          first | exact ⟨trivial, ⟨_, _, _, _, _, _, _, _, rfl, by constructor <;> omega, by constructor <;> omega, by constructor <;> omega, by constructor <;> omega, by constructor <;> omega, by constructor <;> omega, by constructor <;> omega, by constructor <;> omega⟩, Kp.refl _ _ _ _, hS.pure hL (by decide)⟩ | exact ⟨⟨_, _, _, _, _, _, _, _, rfl, by constructor <;> omega, by constructor <;> omega, by constructor <;> omega, by constructor <;> omega, by constructor <;> omega, by constructor <;> omega, by constructor <;> omega, by constructor <;> omega⟩, Kp.refl _ _ _ _, hS.pure hL (by decide)⟩
        · obtain ⟨o11_0, o11_1, o11_2, o11_3, o11_4, o11_5, o11_6, o11_7, k11, i11_0, i11_1, i11_2, i11_3, i11_4, i11_5, i11_6, i11_7⟩ : IsIns (vals 11) := hφ 11 (hd 11 (by decide))
          obtain ⟨y0, y1, y2, y3, y4, y5, y6, y7, ⟨c0, c1, c2, c3, c4, c5, c6, c7⟩, _⟩ := Dr.at8 hS mI
          obtain ⟨f0, f1, f2, f3, f4, f5, f6, f7⟩ := Dr.free8 hS mI
          refine wpAt_none rfl rfl ?_
          simp only [frOf, Act.put]
          go_wp2_with fail
          first | exact ⟨trivial, trivial, Kp.set8, DS.set8 hS hL (by decide) ho hBR hBw hFB ⟨_, rfl, i11_0⟩ ⟨_, rfl, i11_1⟩ ⟨_, rfl, i11_2⟩ ⟨_, rfl, i11_3⟩ ⟨_, rfl, i11_4⟩ ⟨_, rfl, i11_5⟩ ⟨_, rfl, i11_6⟩ ⟨_, rfl, i11_7⟩⟩ | exact ⟨trivial, Kp.set8, DS.set8 hS hL (by decide) ho hBR hBw hFB ⟨_, rfl, i11_0⟩ ⟨_, rfl, i11_1⟩ ⟨_, rfl, i11_2⟩ ⟨_, rfl, i11_3⟩ ⟨_, rfl, i11_4⟩ ⟨_, rfl, i11_5⟩ ⟨_, rfl, i11_6⟩ ⟨_, rfl, i11_7⟩⟩ | exact ⟨trivial, Kp.set8, DS.set8 hS hL (by decide) ho hBR hBw hFB ⟨_, rfl, i11_0⟩ ⟨_, rfl, i11_1⟩ ⟨_, rfl, i11_2⟩ ⟨_, rfl, i11_3⟩ ⟨_, rfl, i11_4⟩ ⟨_, rfl, i11_5⟩ ⟨_, rfl, i11_6⟩ ⟨_, rfl, i11_7⟩⟩ | exact ⟨Kp.set8, DS.set8 hS hL (by decide) ho hBR hBw hFB ⟨_, rfl, i11_0⟩ ⟨_, rfl, i11_1⟩ ⟨_, rfl, i11_2⟩ ⟨_, rfl, i11_3⟩ ⟨_, rfl, i11_4⟩ ⟨_, rfl, i11_5⟩ ⟨_, rfl, i11_6⟩ ⟨_, rfl, i11_7⟩⟩
      · intro L vals W hall hφ hS'
        have hS := hS'.done
        clear hS' hS0
        simp only [frOf, Act.put, List.setIfInBounds_toArray, List.set_cons_succ, List.set_cons_zero]
        go_wp2_with fail
        go_meet
        exact ⟨rfl, hS.more (by omega)⟩
    · have hS0 : DS w R a m c z (p + 1) 1 13 F (fun _ => false) w1.drew := DS.start D1.drew
      clear D1
      go_wp2_with fail
      refine region_inv3 [(0, 46), (1, 47), (2, 48), (3, 49), (4, 50), (5, 51), (6, 52), (7, 53), (8, 54), (9, 55), (10, 56), (11, 57)]
        (fun j v W => match j with
          | 0 => TabN R (w.heap.size + 1) 5 v W
          | 1 => Is (.pointer (some ⟨R, 0, none⟩)) v
          | 2 => Nt (5) v
          | 3 => Spt R (w.heap.size + 1) v W
          | 4 => IsI v
          | 5 => Is (.pointer (some ⟨R, 0, none⟩)) v
          | 6 => Nt (4) v
          | 7 => Is (.pointer (some ⟨R, 0, none⟩)) v
          | 8 => Nt (4) v
          | 9 => Is (.pointer (some ⟨R, 0, none⟩)) v
          | 10 => Nt (4) v
          | 11 => IsIns v
          | _ => True)
        (DS w R a m c z (p + 1) 1 13 F) (Kp R (w.heap.size + 1))
        (by kernel_rfl) (by kernel_rfl) (by kernel_rfl) (by kernel_rfl) (by kernel_rfl) rfl hS0 ?_ ?_ ?_
      · intro i j v W W' hji hφ hT
        match j, hji, hφ with
        | 0, _, hφ => exact TabN.next hφ hT
        | 1, _, hφ => exact hφ
        | 2, _, hφ => exact hφ
        | 3, _, hφ => exact Spt.next hφ hT
        | 4, _, hφ => exact hφ
        | 5, _, hφ => exact hφ
        | 6, _, hφ => exact hφ
        | 7, _, hφ => exact hφ
        | 8, _, hφ => exact hφ
        | 9, _, hφ => exact hφ
        | 10, _, hφ => exact hφ
        | 11, _, hφ => exact hφ
        | 12, _, hφ => exact hφ
        | _ + 13, _, _ => trivial
      · intro i L vals W hi' hφ hS hL hd
        have hi2 : i < 13 := hi'
        clear hi'
        have hbd := DS.bd (K := 1) (n := 13) (L := L)
        obtain ⟨p', hp', hr⟩ := hS.rd
        have hrs := hr.size
        rcases (show i = 0 ∨ i = 1 ∨ i = 2 ∨ i = 3 ∨ i = 4 ∨ i = 5 ∨ i = 6 ∨ i = 7 ∨ i = 8 ∨ i = 9 ∨ i = 10 ∨ i = 11 ∨ i = 12 by omega) with rfl | rfl | rfl | rfl | rfl | rfl | rfl | rfl | rfl | rfl | rfl | rfl | rfl
        · have hBlt : (w.heap.size + 1) < W.heap.size := hBin W hS
          refine wpAt_of rfl rfl ?_
          simp only [frOf, Act.put]
          go_wp2_with fail
          first | exact ⟨trivial, tabN_of hrs hBlt rfl (by kernel_rfl), Kp.of (World.grownBy_alloc _ _ _), DS.alloc hS hL (by decide) _⟩ | exact ⟨tabN_of hrs hBlt rfl (by kernel_rfl), Kp.of (World.grownBy_alloc _ _ _), DS.alloc hS hL (by decide) _⟩
        · refine wpAt_of rfl rfl ?_
          simp only [frOf, Act.put]
          go_wp2_with fail
          first | exact ⟨trivial, rfl, Kp.refl _ _ _ _, hS.pure hL (by decide)⟩ | exact ⟨rfl, Kp.refl _ _ _ _, hS.pure hL (by decide)⟩
        · have k1 : vals 1 = .pointer (some ⟨R, 0, none⟩) := hφ 1 (hd 1 (by decide))
          refine wpAt_of rfl rfl ?_
          simp only [frOf, Act.put]
          go_wp2_with fail
          refine (pick R a m c z p' (5) _ hr (by omega) (by omega) (by omega)).mono ?_
          rintro e W' ⟨x, hx1, hx2, rfl, hR', g⟩
          go_wp2_with fail
          first | exact ⟨trivial, ⟨x, hx1, hx2, rfl⟩, Kp.of g, DS.call hS hL (by decide) hR' g (by omega)⟩ | exact ⟨⟨x, hx1, hx2, rfl⟩, Kp.of g, DS.call hS hL (by decide) hR' g (by omega)⟩
        · obtain ⟨g0, k0, t10, t20, t30, t40⟩ : TabN R (w.heap.size + 1) 5 (vals 0) W := hφ 0 (hd 0 (by decide))
          obtain ⟨n2, l2, h2, k2⟩ : Nt (5) (vals 2) := hφ 2 (hd 2 (by decide))
          obtain ⟨kk, rfl⟩ := Int.eq_ofNat_of_zero_le l2
          obtain ⟨y, cy, hy⟩ := t40 kk (by omega)
          have tn : ((kk : Int)).toNat = kk := by omega
          refine wpAt_of rfl rfl ?_
          simp only [frOf, Act.put]
          go_wp2_with fail
          first | exact ⟨trivial, ⟨g0, kk, rfl, t10, t20, t30, y, cy, hy⟩, Kp.refl _ _ _ _, hS.pure hL (by decide)⟩ | exact ⟨⟨g0, kk, rfl, t10, t20, t30, y, cy, hy⟩, Kp.refl _ _ _ _, hS.pure hL (by decide)⟩
        · obtain ⟨g3, j3, k3, s13, s23, s33, y3, s43, s53⟩ : Spt R (w.heap.size + 1) (vals 3) W := hφ 3 (hd 3 (by decide))
          refine wpAt_of rfl rfl ?_
          simp only [frOf, Act.put]
          go_wp2_with fail
          first | exact ⟨trivial, ⟨_, rfl, by assumption⟩, Kp.refl _ _ _ _, hS.pure hL (by decide)⟩ | exact ⟨⟨_, rfl, by assumption⟩, Kp.refl _ _ _ _, hS.pure hL (by decide)⟩
        · refine wpAt_of rfl rfl ?_
          simp only [frOf, Act.put]
          go_wp2_with fail
          first | exact ⟨trivial, rfl, Kp.refl _ _ _ _, hS.pure hL (by decide)⟩ | exact ⟨rfl, Kp.refl _ _ _ _, hS.pure hL (by decide)⟩
        · have k5 : vals 5 = .pointer (some ⟨R, 0, none⟩) := hφ 5 (hd 5 (by decide))
          refine wpAt_of rfl rfl ?_
          simp only [frOf, Act.put]
          go_wp2_with fail
          refine (pick R a m c z p' (4) _ hr (by omega) (by omega) (by omega)).mono ?_
          rintro e W' ⟨x, hx1, hx2, rfl, hR', g⟩
          go_wp2_with fail
          first | exact ⟨trivial, ⟨x, hx1, hx2, rfl⟩, Kp.of g, DS.call hS hL (by decide) hR' g (by omega)⟩ | exact ⟨⟨x, hx1, hx2, rfl⟩, Kp.of g, DS.call hS hL (by decide) hR' g (by omega)⟩
        · refine wpAt_of rfl rfl ?_
          simp only [frOf, Act.put]
          go_wp2_with fail
          first | exact ⟨trivial, rfl, Kp.refl _ _ _ _, hS.pure hL (by decide)⟩ | exact ⟨rfl, Kp.refl _ _ _ _, hS.pure hL (by decide)⟩
        · have k7 : vals 7 = .pointer (some ⟨R, 0, none⟩) := hφ 7 (hd 7 (by decide))
          refine wpAt_of rfl rfl ?_
          simp only [frOf, Act.put]
          go_wp2_with fail
          refine (pick R a m c z p' (4) _ hr (by omega) (by omega) (by omega)).mono ?_
          rintro e W' ⟨x, hx1, hx2, rfl, hR', g⟩
          go_wp2_with fail
          first | exact ⟨trivial, ⟨x, hx1, hx2, rfl⟩, Kp.of g, DS.call hS hL (by decide) hR' g (by omega)⟩ | exact ⟨⟨x, hx1, hx2, rfl⟩, Kp.of g, DS.call hS hL (by decide) hR' g (by omega)⟩
        · refine wpAt_of rfl rfl ?_
          simp only [frOf, Act.put]
          go_wp2_with fail
          first | exact ⟨trivial, rfl, Kp.refl _ _ _ _, hS.pure hL (by decide)⟩ | exact ⟨rfl, Kp.refl _ _ _ _, hS.pure hL (by decide)⟩
        · have k9 : vals 9 = .pointer (some ⟨R, 0, none⟩) := hφ 9 (hd 9 (by decide))
          refine wpAt_of rfl rfl ?_
          simp only [frOf, Act.put]
          go_wp2_with fail
          refine (pick R a m c z p' (4) _ hr (by omega) (by omega) (by omega)).mono ?_
          rintro e W' ⟨x, hx1, hx2, rfl, hR', g⟩
          go_wp2_with fail
          first | exact ⟨trivial, ⟨x, hx1, hx2, rfl⟩, Kp.of g, DS.call hS hL (by decide) hR' g (by omega)⟩ | exact ⟨⟨x, hx1, hx2, rfl⟩, Kp.of g, DS.call hS hL (by decide) hR' g (by omega)⟩
        · obtain ⟨n4, k4, ⟨l4, h4⟩⟩ : IsI (vals 4) := hφ 4 (hd 4 (by decide))
          obtain ⟨n6, l6, h6, k6⟩ : Nt (4) (vals 6) := hφ 6 (hd 6 (by decide))
          obtain ⟨n8, l8, h8, k8⟩ : Nt (4) (vals 8) := hφ 8 (hd 8 (by decide))
          obtain ⟨n10, l10, h10, k10⟩ : Nt (4) (vals 10) := hφ 10 (hd 10 (by decide))
          refine wpAt_of rfl rfl ?_
          simp only [frOf, Act.put]
          go_wp2_with fail
          first | exact ⟨trivial, ⟨_, _, _, _, _, _, _, _, rfl, by constructor <;> omega, by constructor <;> omega, by constructor <;> omega, by constructor <;> omega, by constructor <;> omega, by constructor <;> omega, by constructor <;> omega, by constructor <;> omega⟩, Kp.refl _ _ _ _, hS.pure hL (by decide)⟩ | exact ⟨⟨_, _, _, _, _, _, _, _, rfl, by constructor <;> omega, by constructor <;> omega, by constructor <;> omega, by constructor <;> omega, by constructor <;> omega, by constructor <;> omega, by constructor <;> omega, by constructor <;> omega⟩, Kp.refl _ _ _ _, hS.pure hL (by decide)⟩
        · obtain ⟨o11_0, o11_1, o11_2, o11_3, o11_4, o11_5, o11_6, o11_7, k11, i11_0, i11_1, i11_2, i11_3, i11_4, i11_5, i11_6, i11_7⟩ : IsIns (vals 11) := hφ 11 (hd 11 (by decide))
          obtain ⟨y0, y1, y2, y3, y4, y5, y6, y7, ⟨c0, c1, c2, c3, c4, c5, c6, c7⟩, _⟩ := Dr.at8 hS mI
          obtain ⟨f0, f1, f2, f3, f4, f5, f6, f7⟩ := Dr.free8 hS mI
          refine wpAt_none rfl rfl ?_
          simp only [frOf, Act.put]
          go_wp2_with fail
          first | exact ⟨trivial, trivial, Kp.set8, DS.set8 hS hL (by decide) ho hBR hBw hFB ⟨_, rfl, i11_0⟩ ⟨_, rfl, i11_1⟩ ⟨_, rfl, i11_2⟩ ⟨_, rfl, i11_3⟩ ⟨_, rfl, i11_4⟩ ⟨_, rfl, i11_5⟩ ⟨_, rfl, i11_6⟩ ⟨_, rfl, i11_7⟩⟩ | exact ⟨trivial, Kp.set8, DS.set8 hS hL (by decide) ho hBR hBw hFB ⟨_, rfl, i11_0⟩ ⟨_, rfl, i11_1⟩ ⟨_, rfl, i11_2⟩ ⟨_, rfl, i11_3⟩ ⟨_, rfl, i11_4⟩ ⟨_, rfl, i11_5⟩ ⟨_, rfl, i11_6⟩ ⟨_, rfl, i11_7⟩⟩ | exact ⟨trivial, Kp.set8, DS.set8 hS hL (by decide) ho hBR hBw hFB ⟨_, rfl, i11_0⟩ ⟨_, rfl, i11_1⟩ ⟨_, rfl, i11_2⟩ ⟨_, rfl, i11_3⟩ ⟨_, rfl, i11_4⟩ ⟨_, rfl, i11_5⟩ ⟨_, rfl, i11_6⟩ ⟨_, rfl, i11_7⟩⟩ | exact ⟨Kp.set8, DS.set8 hS hL (by decide) ho hBR hBw hFB ⟨_, rfl, i11_0⟩ ⟨_, rfl, i11_1⟩ ⟨_, rfl, i11_2⟩ ⟨_, rfl, i11_3⟩ ⟨_, rfl, i11_4⟩ ⟨_, rfl, i11_5⟩ ⟨_, rfl, i11_6⟩ ⟨_, rfl, i11_7⟩⟩
      · intro L vals W hall hφ hS'
        have hS := hS'.done
        clear hS' hS0
        simp only [frOf, Act.put, List.setIfInBounds_toArray, List.set_cons_succ, List.set_cons_zero]
        go_wp2_with fail
        go_meet
        exact ⟨rfl, hS.more (by omega)⟩
    · have hS0 : DS w R a m c z (p + 1) 1 13 F (fun _ => false) w1.drew := DS.start D1.drew
      clear D1
      go_wp2_with fail
      refine region_inv3 [(0, 46), (1, 47), (2, 48), (3, 49), (4, 50), (5, 51), (6, 52), (7, 53), (8, 54), (9, 55), (10, 56), (11, 57)]
        (fun j v W => match j with
          | 0 => TabN R (w.heap.size + 1) 5 v W
          | 1 => Is (.pointer (some ⟨R, 0, none⟩)) v
          | 2 => Nt (5) v
          | 3 => Spt R (w.heap.size + 1) v W
          | 4 => IsI v
          | 5 => Is (.pointer (some ⟨R, 0, none⟩)) v
          | 6 => Nt (4) v
          | 7 => Is (.pointer (some ⟨R, 0, none⟩)) v
          | 8 => Nt (4) v
          | 9 => Is (.pointer (some ⟨R, 0, none⟩)) v
          | 10 => Nt (4) v
          | 11 => IsIns v
          | _ => True)
        (DS w R a m c z (p + 1) 1 13 F) (Kp R (w.heap.size + 1))
        (by kernel_rfl) (by kernel_rfl) (by kernel_rfl) (by kernel_rfl) (by kernel_rfl) rfl hS0 ?_ ?_ ?_
      · intro i j v W W' hji hφ hT
        match j, hji, hφ with
        | 0, _, hφ => exact TabN.next hφ hT
        | 1, _, hφ => exact hφ
        | 2, _, hφ => exact hφ
        | 3, _, hφ => exact Spt.next hφ hT
        | 4, _, hφ => exact hφ
        | 5, _, hφ => exact hφ
        | 6, _, hφ => exact hφ
        | 7, _, hφ => exact hφ
        | 8, _, hφ => exact hφ
        | 9, _, hφ => exact hφ
        | 10, _, hφ => exact hφ
        | 11, _, hφ => exact hφ
        | 12, _, hφ => exact hφ
        | _ + 13, _, _ => trivial
      · intro i L vals W hi' hφ hS hL hd
        have hi2 : i < 13 := hi'
        clear hi'
        have hbd := DS.bd (K := 1) (n := 13) (L := L)
        obtain ⟨p', hp', hr⟩ := hS.rd
        have hrs := hr.size
        rcases (show i = 0 ∨ i = 1 ∨ i = 2 ∨ i = 3 ∨ i = 4 ∨ i = 5 ∨ i = 6 ∨ i = 7 ∨ i = 8 ∨ i = 9 ∨ i = 10 ∨ i = 11 ∨ i = 12 by omega) with rfl | rfl | rfl | rfl | rfl | rfl | rfl | rfl | rfl | rfl | rfl | rfl | rfl
        · have hBlt : (w.heap.size + 1) < W.heap.size := hBin W hS
          refine wpAt_of rfl rfl ?_
          simp only [frOf, Act.put]
          go_wp2_with fail
          first | exact ⟨trivial, tabN_of hrs hBlt rfl (by kernel_rfl), Kp.of (World.grownBy_alloc _ _ _), DS.alloc hS hL (by decide) _⟩ | exact ⟨tabN_of hrs hBlt rfl (by kernel_rfl), Kp.of (World.grownBy_alloc _ _ _), DS.alloc hS hL (by decide) _⟩
        · refine wpAt_of rfl rfl ?_
          simp only [frOf, Act.put]
          go_wp2_with fail
          first | exact ⟨trivial, rfl, Kp.refl _ _ _ _, hS.pure hL (by decide)⟩ | exact ⟨rfl, Kp.refl _ _ _ _, hS.pure hL (by decide)⟩
        · have k1 : vals 1 = .pointer (some ⟨R, 0, none⟩) := hφ 1 (hd 1 (by decide))
          refine wpAt_of rfl rfl ?_
          simp only [frOf, Act.put]
          go_wp2_with fail
          refine (pick R a m c z p' (5) _ hr (by omega) (by omega) (by omega)).mono ?_
          rintro e W' ⟨x, hx1, hx2, rfl, hR', g⟩
          go_wp2_with fail
          first | exact ⟨trivial, ⟨x, hx1, hx2, rfl⟩, Kp.of g, DS.call hS hL (by decide) hR' g (by omega)⟩ | exact ⟨⟨x, hx1, hx2, rfl⟩, Kp.of g, DS.call hS hL (by decide) hR' g (by omega)⟩
        · obtain ⟨g0, k0, t10, t20, t30, t40⟩ : TabN R (w.heap.size + 1) 5 (vals 0) W := hφ 0 (hd 0 (by decide))
          obtain ⟨n2, l2, h2, k2⟩ : Nt (5) (vals 2) := hφ 2 (hd 2 (by decide))
          obtain ⟨kk, rfl⟩ := Int.eq_ofNat_of_zero_le l2
          obtain ⟨y, cy, hy⟩ := t40 kk (by omega)
          have tn : ((kk : Int)).toNat = kk := by omega
          refine wpAt_of rfl rfl ?_
          simp only [frOf, Act.put]
          go_wp2_with fail
          first | exact ⟨trivial, ⟨g0, kk, rfl, t10, t20, t30, y, cy, hy⟩, Kp.refl _ _ _ _, hS.pure hL (by decide)⟩ | exact ⟨⟨g0, kk, rfl, t10, t20, t30, y, cy, hy⟩, Kp.refl _ _ _ _, hS.pure hL (by decide)⟩
        · obtain ⟨g3, j3, k3, s13, s23, s33, y3, s43, s53⟩ : Spt R (w.heap.size + 1) (vals 3) W := hφ 3 (hd 3 (by decide))
          refine wpAt_of rfl rfl ?_
          simp only [frOf, Act.put]
          go_wp2_with fail
          first | exact ⟨trivial, ⟨_, rfl, by assumption⟩, Kp.refl _ _ _ _, hS.pure hL (by decide)⟩ | exact ⟨⟨_, rfl, by assumption⟩, Kp.refl _ _ _ _, hS.pure hL (by decide)⟩
        · refine wpAt_of rfl rfl ?_
          simp only [frOf, Act.put]
          go_wp2_with fail
          first | exact ⟨trivial, rfl, Kp.refl _ _ _ _, hS.pure hL (by decide)⟩ | exact ⟨rfl, Kp.refl _ _ _ _, hS.pure hL (by decide)⟩
        · have k5 : vals 5 = .pointer (some ⟨R, 0, none⟩) := hφ 5 (hd 5 (by decide))
          refine wpAt_of rfl rfl ?_
          simp only [frOf, Act.put]
          go_wp2_with fail
          refine (pick R a m c z p' (4) _ hr (by omega) (by omega) (by omega)).mono ?_
          rintro e W' ⟨x, hx1, hx2, rfl, hR', g⟩
          go_wp2_with fail
          first | exact ⟨trivial, ⟨x, hx1, hx2, rfl⟩, Kp.of g, DS.call hS hL (by decide) hR' g (by omega)⟩ | exact ⟨⟨x, hx1, hx2, rfl⟩, Kp.of g, DS.call hS hL (by decide) hR' g (by omega)⟩
        · refine wpAt_of rfl rfl ?_
          simp only [frOf, Act.put]
          go_wp2_with fail
          first | exact ⟨trivial, rfl, Kp.refl _ _ _ _, hS.pure hL (by decide)⟩ | exact ⟨rfl, Kp.refl _ _ _ _, hS.pure hL (by decide)⟩
        · have k7 : vals 7 = .pointer (some ⟨R, 0, none⟩) := hφ 7 (hd 7 (by decide))
          refine wpAt_of rfl rfl ?_
          simp only [frOf, Act.put]
          go_wp2_with fail
          refine (pick R a m c z p' (4) _ hr (by omega) (by omega) (by omega)).mono ?_
          rintro e W' ⟨x, hx1, hx2, rfl, hR', g⟩
          go_wp2_with fail
          first | exact ⟨trivial, ⟨x, hx1, hx2, rfl⟩, Kp.of g, DS.call hS hL (by decide) hR' g (by omega)⟩ | exact ⟨⟨x, hx1, hx2, rfl⟩, Kp.of g, DS.call hS hL (by decide) hR' g (by omega)⟩
        · refine wpAt_of rfl rfl ?_
          simp only [frOf, Act.put]
          go_wp2_with fail
          first | exact ⟨trivial, rfl, Kp.refl _ _ _ _, hS.pure hL (by decide)⟩ | exact ⟨rfl, Kp.refl _ _ _ _, hS.pure hL (by decide)⟩
        · have k9 : vals 9 = .pointer (some ⟨R, 0, none⟩) := hφ 9 (hd 9 (by decide))
          refine wpAt_of rfl rfl ?_
          simp only [frOf, Act.put]
          go_wp2_with fail
          refine (pick R a m c z p' (4) _ hr (by omega) (by omega) (by omega)).mono ?_
          rintro e W' ⟨x, hx1, hx2, rfl, hR', g⟩
          go_wp2_with fail
          first | exact ⟨trivial, ⟨x, hx1, hx2, rfl⟩, Kp.of g, DS.call hS hL (by decide) hR' g (by omega)⟩ | exact ⟨⟨x, hx1, hx2, rfl⟩, Kp.of g, DS.call hS hL (by decide) hR' g (by omega)⟩
        · obtain ⟨n4, k4, ⟨l4, h4⟩⟩ : IsI (vals 4) := hφ 4 (hd 4 (by decide))
          obtain ⟨n6, l6, h6, k6⟩ : Nt (4) (vals 6) := hφ 6 (hd 6 (by decide))
          obtain ⟨n8, l8, h8, k8⟩ : Nt (4) (vals 8) := hφ 8 (hd 8 (by decide))
          obtain ⟨n10, l10, h10, k10⟩ : Nt (4) (vals 10) := hφ 10 (hd 10 (by decide))
          refine wpAt_of rfl rfl ?_
          simp only [frOf, Act.put]
          go_wp2_with fail
          first | exact ⟨trivial, ⟨_, _, _, _, _, _, _, _, rfl, by constructor <;> omega, by constructor <;> omega, by constructor <;> omega, by constructor <;> omega, by constructor <;> omega, by constructor <;> omega, by constructor <;> omega, by constructor <;> omega⟩, Kp.refl _ _ _ _, hS.pure hL (by decide)⟩ | exact ⟨⟨_, _, _, _, _, _, _, _, rfl, by constructor <;> omega, by constructor <;> omega, by constructor <;> omega, by constructor <;> omega, by constructor <;> omega, by constructor <;> omega, by constructor <;> omega, by constructor <;> omega⟩, Kp.refl _ _ _ _, hS.pure hL (by decide)⟩
        · obtain ⟨o11_0, o11_1, o11_2, o11_3, o11_4, o11_5, o11_6, o11_7, k11, i11_0, i11_1, i11_2, i11_3, i11_4, i11_5, i11_6, i11_7⟩ : IsIns (vals 11) := hφ 11 (hd 11 (by decide))
          obtain ⟨y0, y1, y2, y3, y4, y5, y6, y7, ⟨c0, c1, c2, c3, c4, c5, c6, c7⟩, _⟩ := Dr.at8 hS mI
          obtain ⟨f0, f1, f2, f3, f4, f5, f6, f7⟩ := Dr.free8 hS mI
          refine wpAt_none rfl rfl ?_
          simp only [frOf, Act.put]
          go_wp2_with fail
          first | exact ⟨trivial, trivial, Kp.set8, DS.set8 hS hL (by decide) ho hBR hBw hFB ⟨_, rfl, i11_0⟩ ⟨_, rfl, i11_1⟩ ⟨_, rfl, i11_2⟩ ⟨_, rfl, i11_3⟩ ⟨_, rfl, i11_4⟩ ⟨_, rfl, i11_5⟩ ⟨_, rfl, i11_6⟩ ⟨_, rfl, i11_7⟩⟩ | exact ⟨trivial, Kp.set8, DS.set8 hS hL (by decide) ho hBR hBw hFB ⟨_, rfl, i11_0⟩ ⟨_, rfl, i11_1⟩ ⟨_, rfl, i11_2⟩ ⟨_, rfl, i11_3⟩ ⟨_, rfl, i11_4⟩ ⟨_, rfl, i11_5⟩ ⟨_, rfl, i11_6⟩ ⟨_, rfl, i11_7⟩⟩ | exact ⟨trivial, Kp.set8, DS.set8 hS hL (by decide) ho hBR hBw hFB ⟨_, rfl, i11_0⟩ ⟨_, rfl, i11_1⟩ ⟨_, rfl, i11_2⟩ ⟨_, rfl, i11_3⟩ ⟨_, rfl, i11_4⟩ ⟨_, rfl, i11_5⟩ ⟨_, rfl, i11_6⟩ ⟨_, rfl, i11_7⟩⟩ | exact ⟨Kp.set8, DS.set8 hS hL (by decide) ho hBR hBw hFB ⟨_, rfl, i11_0⟩ ⟨_, rfl, i11_1⟩ ⟨_, rfl, i11_2⟩ ⟨_, rfl, i11_3⟩ ⟨_, rfl, i11_4⟩ ⟨_, rfl, i11_5⟩ ⟨_, rfl, i11_6⟩ ⟨_, rfl, i11_7⟩⟩
      · intro L vals W hall hφ hS'
        have hS := hS'.done
        clear hS' hS0
        simp only [frOf, Act.put, List.setIfInBounds_toArray, List.set_cons_succ, List.set_cons_zero]
        go_wp2_with fail
        go_meet
        exact ⟨rfl, hS.more (by omega)⟩
    · obtain ⟨p0', hp0', hr0'⟩ := D1.rd
      go_wp2_with fail
      refine (pick R a m c z p0' 4 _ hr0' (by omega) (by omega) (by omega)).mono ?_
      rintro e W0 ⟨y0, hy0, hy0', rfl, h0', g0'⟩
      have E0 : Dr w R a m c z (p + 2) F W0 := D1.next h0' g0' (by omega)
      clear D1 hr0' h0' g0'
      obtain ⟨p1', hp1', hr1'⟩ := E0.rd
      go_wp2_with fail
      refine (pick R a m c z p1' 4 _ hr1' (by omega) (by omega) (by omega)).mono ?_
      rintro e W1 ⟨y1, hy1, hy1', rfl, h1', g1'⟩
      have E1 : Dr w R a m c z (p + 3) F W1 := E0.next h1' g1' (by omega)
      clear E0 hr1' h1' g1'
      obtain ⟨q0, q1, q2, q3, q4, q5, q6, q7, ⟨c0, c1, c2, c3, c4, c5, c6, c7⟩, _⟩ := E1.at8 mI
      obtain ⟨f0, f1, f2, f3, f4, f5, f6, f7⟩ := E1.free8 mI
      go_wp2_with fail
      go_meet
      exact ⟨rfl, (E1.set8 ho hBR hBw hFB ⟨_, rfl, by constructor <;> omega⟩ ⟨_, rfl, by constructor <;> omega⟩ ⟨_, rfl, by constructor <;> omega⟩ ⟨_, rfl, by constructor <;> omega⟩ ⟨_, rfl, by constructor <;> omega⟩ ⟨_, rfl, by constructor <;> omega⟩ ⟨_, rfl, by constructor <;> omega⟩ ⟨_, rfl, by constructor <;> omega⟩).more (by omega)⟩
    · obtain ⟨p0', hp0', hr0'⟩ := D1.rd
      go_wp2_with fail
      refine (pick R a m c z p0' 4 _ hr0' (by omega) (by omega) (by omega)).mono ?_
      rintro e W0 ⟨y0, hy0, hy0', rfl, h0', g0'⟩
      have E0 : Dr w R a m c z (p + 2) F W0 := D1.next h0' g0' (by omega)
      clear D1 hr0' h0' g0'
      obtain ⟨p1', hp1', hr1'⟩ := E0.rd
      go_wp2_with fail
      refine (pick R a m c z p1' 4 _ hr1' (by omega) (by omega) (by omega)).mono ?_
      rintro e W1 ⟨y1, hy1, hy1', rfl, h1', g1'⟩
      have E1 : Dr w R a m c z (p + 3) F W1 := E0.next h1' g1' (by omega)
      clear E0 hr1' h1' g1'
      obtain ⟨q0, q1, q2, q3, q4, q5, q6, q7, ⟨c0, c1, c2, c3, c4, c5, c6, c7⟩, _⟩ := E1.at8 mI
      obtain ⟨f0, f1, f2, f3, f4, f5, f6, f7⟩ := E1.free8 mI
      go_wp2_with fail
      go_meet
      exact ⟨rfl, (E1.set8 ho hBR hBw hFB ⟨_, rfl, by constructor <;> omega⟩ ⟨_, rfl, by constructor <;> omega⟩ ⟨_, rfl, by constructor <;> omega⟩ ⟨_, rfl, by constructor <;> omega⟩ ⟨_, rfl, by constructor <;> omega⟩ ⟨_, rfl, by constructor <;> omega⟩ ⟨_, rfl, by constructor <;> omega⟩ ⟨_, rfl, by constructor <;> omega⟩).more (by omega)⟩
    · obtain ⟨p0', hp0', hr0'⟩ := D1.rd
      go_wp2_with fail
      refine (pick R a m c z p0' 4 _ hr0' (by omega) (by omega) (by omega)).mono ?_
      rintro e W0 ⟨y0, hy0, hy0', rfl, h0', g0'⟩
      have E0 : Dr w R a m c z (p + 2) F W0 := D1.next h0' g0' (by omega)
      clear D1 hr0' h0' g0'
      obtain ⟨p1', hp1', hr1'⟩ := E0.rd
      go_wp2_with fail
      refine (pick R a m c z p1' 4 _ hr1' (by omega) (by omega) (by omega)).mono ?_
      rintro e W1 ⟨y1, hy1, hy1', rfl, h1', g1'⟩
      have E1 : Dr w R a m c z (p + 3) F W1 := E0.next h1' g1' (by omega)
      clear E0 hr1' h1' g1'
      obtain ⟨p2', hp2', hr2'⟩ := E1.rd
      go_wp2_with fail
      refine (pick R a m c z p2' 4 _ hr2' (by omega) (by omega) (by omega)).mono ?_
      rintro e W2 ⟨y2, hy2, hy2', rfl, h2', g2'⟩
      have E2 : Dr w R a m c z (p + 4) F W2 := E1.next h2' g2' (by omega)
      clear E1 hr2' h2' g2'
      obtain ⟨p3', hp3', hr3'⟩ := E2.rd
      go_wp2_with fail
      refine (pick R a m c z p3' size _ hr3' (by omega) (by omega) (by omega)).mono ?_
      rintro e W3 ⟨y3, hy3, hy3', rfl, h3', g3'⟩
      have E3 : Dr w R a m c z (p + 5) F W3 := E2.next h3' g3' (by omega)
      clear E2 hr3' h3' g3'
      obtain ⟨q0, q1, q2, q3, q4, q5, q6, q7, ⟨c0, c1, c2, c3, c4, c5, c6, c7⟩, _⟩ := E3.at8 mI
      obtain ⟨f0, f1, f2, f3, f4, f5, f6, f7⟩ := E3.free8 mI
      go_wp2_with fail
      go_meet
      exact ⟨rfl, (E3.set8 ho hBR hBw hFB ⟨_, rfl, by constructor <;> omega⟩ ⟨_, rfl, by constructor <;> omega⟩ ⟨_, rfl, by constructor <;> omega⟩ ⟨_, rfl, by constructor <;> omega⟩ ⟨_, rfl, by constructor <;> omega⟩ ⟨_, rfl, by constructor <;> omega⟩ ⟨_, rfl, by constructor <;> omega⟩ ⟨_, rfl, by constructor <;> omega⟩).more (by omega)⟩
    · obtain ⟨p0', hp0', hr0'⟩ := D1.rd
      go_wp2_with fail
      refine (pick R a m c z p0' 4 _ hr0' (by omega) (by omega) (by omega)).mono ?_
      rintro e W0 ⟨y0, hy0, hy0', rfl, h0', g0'⟩
      have E0 : Dr w R a m c z (p + 2) F W0 := D1.next h0' g0' (by omega)
      clear D1 hr0' h0' g0'
      obtain ⟨p1', hp1', hr1'⟩ := E0.rd
      go_wp2_with fail
      refine (pick R a m c z p1' 4 _ hr1' (by omega) (by omega) (by omega)).mono ?_
      rintro e W1 ⟨y1, hy1, hy1', rfl, h1', g1'⟩
      have E1 : Dr w R a m c z (p + 3) F W1 := E0.next h1' g1' (by omega)
      clear E0 hr1' h1' g1'
      obtain ⟨p2', hp2', hr2'⟩ := E1.rd
      go_wp2_with fail
      refine (pick R a m c z p2' 4 _ hr2' (by omega) (by omega) (by omega)).mono ?_
      rintro e W2 ⟨y2, hy2, hy2', rfl, h2', g2'⟩
      have E2 : Dr w R a m c z (p + 4) F W2 := E1.next h2' g2' (by omega)
      clear E1 hr2' h2' g2'
      obtain ⟨p3', hp3', hr3'⟩ := E2.rd
      go_wp2_with fail
      refine (pick R a m c z p3' size _ hr3' (by omega) (by omega) (by omega)).mono ?_
      rintro e W3 ⟨y3, hy3, hy3', rfl, h3', g3'⟩
      have E3 : Dr w R a m c z (p + 5) F W3 := E2.next h3' g3' (by omega)
      clear E2 hr3' h3' g3'
      obtain ⟨q0, q1, q2, q3, q4, q5, q6, q7, ⟨c0, c1, c2, c3, c4, c5, c6, c7⟩, _⟩ := E3.at8 mI
      obtain ⟨f0, f1, f2, f3, f4, f5, f6, f7⟩ := E3.free8 mI
      go_wp2_with fail
      go_meet
      exact ⟨rfl, (E3.set8 ho hBR hBw hFB ⟨_, rfl, by constructor <;> omega⟩ ⟨_, rfl, by constructor <;> omega⟩ ⟨_, rfl, by constructor <;> omega⟩ ⟨_, rfl, by constructor <;> omega⟩ ⟨_, rfl, by constructor <;> omega⟩ ⟨_, rfl, by constructor <;> omega⟩ ⟨_, rfl, by constructor <;> omega⟩ ⟨_, rfl, by constructor <;> omega⟩).more (by omega)⟩
    · obtain ⟨p0', hp0', hr0'⟩ := D1.rd
      go_wp2_with fail
      refine (pick R a m c z p0' 4 _ hr0' (by omega) (by omega) (by omega)).mono ?_
      rintro e W0 ⟨y0, hy0, hy0', rfl, h0', g0'⟩
      have E0 : Dr w R a m c z (p + 2) F W0 := D1.next h0' g0' (by omega)
      clear D1 hr0' h0' g0'
      obtain ⟨p1', hp1', hr1'⟩ := E0.rd
      go_wp2_with fail
      refine (pick R a m c z p1' 4 _ hr1' (by omega) (by omega) (by omega)).mono ?_
      rintro e W1 ⟨y1, hy1, hy1', rfl, h1', g1'⟩
      have E1 : Dr w R a m c z (p + 3) F W1 := E0.next h1' g1' (by omega)
      clear E0 hr1' h1' g1'
      obtain ⟨p2', hp2', hr2'⟩ := E1.rd
      go_wp2_with fail
      refine (pick R a m c z p2' procs _ hr2' (by omega) (by omega) (by omega)).mono ?_
      rintro e W2 ⟨y2, hy2, hy2', rfl, h2', g2'⟩
      have E2 : Dr w R a m c z (p + 4) F W2 := E1.next h2' g2' (by omega)
      clear E1 hr2' h2' g2'
      obtain ⟨q0, q1, q2, q3, q4, q5, q6, q7, ⟨c0, c1, c2, c3, c4, c5, c6, c7⟩, _⟩ := E2.at8 mI
      obtain ⟨f0, f1, f2, f3, f4, f5, f6, f7⟩ := E2.free8 mI
      go_wp2_with fail
      go_meet
      exact ⟨rfl, (E2.set8 ho hBR hBw hFB ⟨_, rfl, by constructor <;> omega⟩ ⟨_, rfl, by constructor <;> omega⟩ ⟨_, rfl, by constructor <;> omega⟩ ⟨_, rfl, by constructor <;> omega⟩ ⟨_, rfl, by constructor <;> omega⟩ ⟨_, rfl, by constructor <;> omega⟩ ⟨_, rfl, by constructor <;> omega⟩ ⟨_, rfl, by constructor <;> omega⟩).more (by omega)⟩
    · obtain ⟨p0', hp0', hr0'⟩ := D1.rd
      go_wp2_with fail
      refine (pick R a m c z p0' 4 _ hr0' (by omega) (by omega) (by omega)).mono ?_
      rintro e W0 ⟨y0, hy0, hy0', rfl, h0', g0'⟩
      have E0 : Dr w R a m c z (p + 2) F W0 := D1.next h0' g0' (by omega)
      clear D1 hr0' h0' g0'
      obtain ⟨p1', hp1', hr1'⟩ := E0.rd
      go_wp2_with fail
      refine (pick R a m c z p1' 4 _ hr1' (by omega) (by omega) (by omega)).mono ?_
      rintro e W1 ⟨y1, hy1, hy1', rfl, h1', g1'⟩
      have E1 : Dr w R a m c z (p + 3) F W1 := E0.next h1' g1' (by omega)
      clear E0 hr1' h1' g1'
      obtain ⟨p2', hp2', hr2'⟩ := E1.rd
      go_wp2_with fail
      refine (pick R a m c z p2' 4 _ hr2' (by omega) (by omega) (by omega)).mono ?_
      rintro e W2 ⟨y2, hy2, hy2', rfl, h2', g2'⟩
      have E2 : Dr w R a m c z (p + 4) F W2 := E1.next h2' g2' (by omega)
      clear E1 hr2' h2' g2'
      obtain ⟨q0, q1, q2, q3, q4, q5, q6, q7, ⟨c0, c1, c2, c3, c4, c5, c6, c7⟩, _⟩ := E2.at8 mI
      obtain ⟨f0, f1, f2, f3, f4, f5, f6, f7⟩ := E2.free8 mI
      go_wp2_with fail
      go_meet
      exact ⟨rfl, (E2.set8 ho hBR hBw hFB ⟨_, rfl, by constructor <;> omega⟩ ⟨_, rfl, by constructor <;> omega⟩ ⟨_, rfl, by constructor <;> omega⟩ ⟨_, rfl, by constructor <;> omega⟩ ⟨_, rfl, by constructor <;> omega⟩ ⟨_, rfl, by constructor <;> omega⟩ ⟨_, rfl, by constructor <;> omega⟩ ⟨_, rfl, by constructor <;> omega⟩).more (by omega)⟩
  case rest =>
    obtain ⟨rfl, D2⟩ := hcut
    clear D1
    obtain ⟨p2, hp2', hr2⟩ := D2.rd
    go_wp2_with fail
    refine (oddS R a m c z p2 16 _ hr2 (by omega) (by omega) (by omega)).mono ?_
    rintro e w3 ⟨od, rfl, h3, g3⟩
    have D3 : Dr w R a m c z (p + 46) F w3 := D2.next h3 g3 (by omega)
    clear D2 hr2 h3 g3
    cases od
    · obtain ⟨s0, s1, s2, s3, s4, s5, s6, s7, ⟨b0, b1, b2, b3, b4, b5, b6, b7⟩, ⟨j0, j1, j2, j3, j4, j5, j6, j7⟩⟩ := D3.at8 mI
      obtain ⟨q0, q1, q2, q3, q4, q5, q6, q7, ⟨a0, a1, a2, a3, a4, a5, a6, a7⟩, _⟩ := D3.at8 mO
      obtain ⟨f0, f1, f2, f3, f4, f5, f6, f7⟩ := D3.free8 mO
      obtain ⟨e0, e1, e2, e3, e4, e5, e6, e7⟩ := own8 a0 a1 a2 a3 a4 a5 a6 a7
      have bR := (D3.set8 ho hOR (Nat.le_refl _) hFO ⟨_, rfl, j0⟩ ⟨_, rfl, j1⟩ ⟨_, rfl, j2⟩ ⟨_, rfl, j3⟩ ⟨_, rfl, j4⟩ ⟨_, rfl, j5⟩ ⟨_, rfl, j6⟩ ⟨_, rfl, j7⟩)
      go_wp2_with fail
      obtain ⟨pz, hpz, hrz⟩ := bR.rd
      exact bodyPost_ret (v := .agg #[.int .i64 s0, .int .i64 s1, .int .i64 s2, .int .i64 s3, .int .i64 s4, .int .i64 s5, .int .i64 s6, .int .i64 s7]) (by simp [results, Try.results54, go_sem, e0, e1, e2, e3, e4, e5, e6, e7]) rfl ⟨_, pz, ⟨_, _, _, _, _, _, _, _, rfl, by first | assumption | (constructor <;> omega), by first | assumption | (constructor <;> omega), by first | assumption | (constructor <;> omega), by first | assumption | (constructor <;> omega), by first | assumption | (constructor <;> omega), by first | assumption | (constructor <;> omega), by first | assumption | (constructor <;> omega), by first | assumption | (constructor <;> omega)⟩, rfl, by omega, hrz, bR.grown⟩
    · obtain ⟨p3, hp3, hr3⟩ := D3.rd
      go_wp2_with fail
      refine (pick R a m c z p3 size _ hr3 (by omega) (by omega) (by omega)).mono ?_
      rintro e w4 ⟨y4, hy4, hy4', rfl, h4, g4⟩
      have D4 : Dr w R a m c z (p + 47) F w4 := D3.next h4 g4 (by omega)
      clear D3 hr3 h4 g4
      have i0 : IsI (.int .i64 0) := ⟨0, rfl, by constructor <;> omega⟩
      have i9 : IsI (.int .i64 9) := ⟨9, rfl, by constructor <;> omega⟩
      have iy : IsI (.int .i64 y4) := ⟨y4, rfl, by constructor <;> omega⟩
      obtain ⟨q0, q1, q2, q3, q4, q5, q6, q7, ⟨a0, a1, a2, a3, a4, a5, a6, a7⟩, _⟩ := D4.at8 mO
      obtain ⟨f0, f1, f2, f3, f4, f5, f6, f7⟩ := D4.free8 mO
      obtain ⟨e0, e1, e2, e3, e4, e5, e6, e7⟩ := own8 a0 a1 a2 a3 a4 a5 a6 a7
      have bR := (D4.set8 ho hOR (Nat.le_refl _) hFO i9 i0 i0 i0 i0 i0 i0 iy)
      go_wp2_with fail
      obtain ⟨pz, hpz, hrz⟩ := bR.rd
      exact bodyPost_ret (v := .agg #[.int .i64 9, .int .i64 0, .int .i64 0, .int .i64 0, .int .i64 0, .int .i64 0, .int .i64 0, .int .i64 y4]) (by simp [results, Try.results54, go_sem, e0, e1, e2, e3, e4, e5, e6, e7]) rfl ⟨_, pz, ⟨_, _, _, _, _, _, _, _, rfl, by first | assumption | (constructor <;> omega), by first | assumption | (constructor <;> omega), by first | assumption | (constructor <;> omega), by first | assumption | (constructor <;> omega), by first | assumption | (constructor <;> omega), by first | assumption | (constructor <;> omega), by first | assumption | (constructor <;> omega), by first | assumption | (constructor <;> omega)⟩, rfl, by omega, hrz, bR.grown⟩
end Go.Proofs.Ytiehokibfdaleaa
