/- A drawn procedure of any steps: l20Proc. -/
import Derived.Test.YtiehokibfdaleaaDrawBox
import Derived.Test.YtiehokibfdaleaaDrawIns
import Derived.Test.YtiehokibfdaleaaDrawItvA
import Derived.Deep.DeepCutAuto
import Derived.Deep.CutBlock
namespace Go.Proofs.Ytiehokibfdaleaa
open Go.ChangeShapes Go.WideShapes Go.ChangeAt Go.RowKit

set_option maxRecDepth 10000 in
set_option maxHeartbeats 8000000 in
theorem procD (R : Nat) (a : Option Addr) (m c : Nat) (z : Nat → Int) (p : Nat) (procs : Int) (w : World) (h : Rd w R a m c z p) (hp : p < 400000) (hp1 : 1 ≤ procs) (hp2 : procs ≤ 100000) :
    Calls Try.prog 43 #[.pointer (some ⟨R, 0, none⟩), .int .i64 procs] w (DPrc R a m c z p w) := by
  obtain ⟨i0, hi, hz0, hz1, hz2⟩ := info_parts infoIns
  have hRs := h.size
  have hold := old_rd h
  go_enter Try.func43, Try.ntmps43
  go_wp2_with fail
  refine (itvDA R a m c z p 99999 _ (h.kept (World.grownBy_alloc _ _ none) (by simp)) (by omega) (by omega)).mono ?_
  rintro e w1 ⟨x1, y1, p1, m0, m1, rfl, hp1', h1, g1⟩
  obtain ⟨wT, hwT⟩ : ∃ wT, wT = w.alloc (.cells #[.int .i64 0, .int .i64 0, .slice none 0 0] 41) := ⟨_, rfl⟩
  rw [← hwT] at g1
  have sT : wT.heap.size = w.heap.size + 1 := by rw [hwT]; simp
  have holdT : Old wT a m := hold.imp id fun ho b off e => by have := ho b off e; omega
  have D1 : Dr wT R a m c z (p + 20) [] w1 := ⟨⟨p1, hp1', h1⟩, g1, Fs.nil _ _ _⟩
  have D2 := Dr.new (t := 25) (P := IsI) (P' := IsI) D1 (x := .int .i64 x1) (y := .int .i64 y1) ⟨_, rfl, m0⟩ ⟨_, rfl, m1⟩
  have hC : w.heap.size + 1 ≤ w1.heap.size := by have := g1.size; omega
  obtain ⟨C, hCe⟩ : ∃ C, w1.heap.size = C := ⟨_, rfl⟩
  go_wp2_with fail
  rw [hCe] at D2 hC
  clear hCe
  obtain ⟨p2, hp2', h2⟩ := D2.rd
  refine (pick R a m c z p2 3 _ h2 (by omega) (by omega) (by omega)).mono ?_
  rintro e w2 ⟨x2, hx2, hx2', rfl, h3, g3⟩
  have D3 := D2.next (Q' := p + 21) h3 g3 (by omega)
  clear D1 D2 h1 g1 h2 h3 g3 m0 m1 hp1' hp2' h
  have hCR : C ≠ R := by omega
  have hF8 : ∀ (v : Value) (i : Nat), IsI v → ∀ f ∈ ([⟨C, 0, IsI⟩, ⟨C, 1, IsI⟩] : List Sp), f.b = C → f.o = i → f.P v := by
    intro v i hv f hf _ _
    simp only [List.mem_cons, List.not_mem_nil, or_false] at hf
    rcases hf with rfl | rfl <;> exact hv
  go_upto_if 13 with fail
  go_cut [5] (fun v W => v = .pointer (some ⟨C, 0, none⟩) ∧ Dr wT R a m c z (p + 22) [⟨C, 0, IsI⟩, ⟨C, 1, IsI⟩] W)
  case first =>
    by_cases h0 : x2 = 0
    · subst h0
      go_wp2_with fail
      go_meet
      exact ⟨rfl, D3.more (by omega)⟩
    · have h1 : (0 : Int) < x2 := by omega
      obtain ⟨p3, hp3', h3⟩ := D3.rd
      go_wp2_with fail
      refine (pick R a m c z p3 6 _ (h3.kept (World.grownBy_alloc _ _ none) (by simp)) (by omega) (by omega) (by omega)).mono ?_
      rintro e w4 ⟨y, hy, hy', rfl, h4, g4⟩
      have hw2 := h3.size
      obtain ⟨kk, rfl⟩ := Int.eq_ofNat_of_zero_le hy
      have D4 : Dr wT R a m c z (p + 22) [⟨C, 0, IsI⟩, ⟨C, 1, IsI⟩] w4 := Dr.next (D3.below ((Below.refl _ _).alloc (Nat.le_refl _) _)) h4 g4 (by omega)
      have tc : ∀ j x, #[Value.int .i64 0, .int .i64 0, .int .i64 0, .int .i64 3, .int .i64 (-5), .int .i64 5, .int .i64 0, .int .i64 10, .int .i64 1, .int .i64 1, .int .i64 (-32768), .int .i64 32767][j]? = some x → w4.cell? ⟨w2.heap.size, j, none⟩ = some x := fun j x hj => g4.cell (by
        unfold World.cell?
        rw [heap_alloc_new]
        simpa using hj) (by simp; omega)
      obtain ⟨q0, c0, _⟩ := D4.has (f := ⟨C, 0, IsI⟩) (by simp)
      obtain ⟨q1, c1, _⟩ := D4.has (f := ⟨C, 1, IsI⟩) (by simp)
      have f0 := D4.free (f := ⟨C, 0, IsI⟩) (by simp)
      have f1 := D4.free (f := ⟨C, 1, IsI⟩) (by simp)
      have fin : ∀ u v : Int, I64 u → I64 v → Dr wT R a m c z (p + 22) [⟨C, 0, IsI⟩, ⟨C, 1, IsI⟩] ((w4.setCell ⟨C, 0, none⟩ (.int .i64 u)).setCell ⟨C, 1, none⟩ (.int .i64 v)) := fun u v hu hv => (D4.set holdT hCR (by omega) (hF8 _ _ ⟨_, rfl, hu⟩)).set holdT hCR (by omega) (hF8 _ _ ⟨_, rfl, hv⟩)
      clear D3 D4 h3 h4 g4
      rcases (show kk = 0 ∨ kk = 1 ∨ kk = 2 ∨ kk = 3 ∨ kk = 4 ∨ kk = 5 by omega) with rfl | rfl | rfl | rfl | rfl | rfl
      · have t0 := tc 0 _ rfl
        have t1 := tc 1 _ rfl
        clear tc
        go_wp2_with fail
        go_meet
        exact ⟨rfl, fin _ _ (by constructor <;> omega) (by constructor <;> omega)⟩
      · have t0 := tc 2 _ rfl
        have t1 := tc 3 _ rfl
        clear tc
        go_wp2_with fail
        go_meet
        exact ⟨rfl, fin _ _ (by constructor <;> omega) (by constructor <;> omega)⟩
      · have t0 := tc 4 _ rfl
        have t1 := tc 5 _ rfl
        clear tc
        go_wp2_with fail
        go_meet
        exact ⟨rfl, fin _ _ (by constructor <;> omega) (by constructor <;> omega)⟩
      · have t0 := tc 6 _ rfl
        have t1 := tc 7 _ rfl
        clear tc
        go_wp2_with fail
        go_meet
        exact ⟨rfl, fin _ _ (by constructor <;> omega) (by constructor <;> omega)⟩
      · have t0 := tc 8 _ rfl
        have t1 := tc 9 _ rfl
        clear tc
        go_wp2_with fail
        go_meet
        exact ⟨rfl, fin _ _ (by constructor <;> omega) (by constructor <;> omega)⟩
      · have t0 := tc 10 _ rfl
        have t1 := tc 11 _ rfl
        clear tc
        go_wp2_with fail
        go_meet
        exact ⟨rfl, fin _ _ (by constructor <;> omega) (by constructor <;> omega)⟩
  case rest =>
    obtain ⟨rfl, D5⟩ := hcut
    clear D3
    obtain ⟨q0, c0, ⟨lo, rfl, l0⟩⟩ := D5.has (f := ⟨C, 0, IsI⟩) (by simp)
    obtain ⟨q1, c1, ⟨up, rfl, l1⟩⟩ := D5.has (f := ⟨C, 1, IsI⟩) (by simp)
    go_wp2_with fail
    obtain ⟨p5, hp5, h5⟩ := D5.rd
    have g5 := D5.grown
    rw [hwT] at g5
    have hTB : w.heap.size < wc.heap.size := by have := D5.grown.size; omega
    have b1 := PBx.made (Q := p + 22) 81 lo up hRs h5 g5 hp5
    obtain ⟨p6, hp6, h6⟩ := b1.d.rd
    refine (pick R a m c z p6 9 _ h6 (by omega) (by omega) (by omega)).mono ?_
    rintro e w6 ⟨x6, hx6, hx6', rfl, h7, g7⟩
    have b2 := b1.next (Q' := p + 60) (by omega) (by omega) hRs h7 g7 (by omega)
    clear b1 h5 h6 h7 g7 g5 D5 c0 c1 holdT hF8 hwT sT hp5 hp6
    obtain ⟨F, hF⟩ : ∃ F, F = prcF wc.heap.size w.heap.size lo up := ⟨_, rfl⟩
    rw [← hF] at b2
    have hF1 : ∀ f ∈ F, f.b = wc.heap.size ∨ f.b = w.heap.size := by rw [hF]; exact prcF_in
    have hF2 : ∀ f ∈ F, f.b = wc.heap.size → f.o ≠ 2 := by rw [hF]; exact prcF_no (by omega)
    have hF3 : ∀ f ∈ F, f.b = w.heap.size → f.P = AnyV := by rw [hF]; exact prcF_any (by omega)
    obtain ⟨B, hB⟩ : ∃ B, wc.heap.size = B := ⟨_, rfl⟩
    rw [hB] at b2 hF1 hF2 hTB hF
    rw [hB]
    clear hB
    have hF0 : prcF B w.heap.size lo up = F := hF.symm
    clear hF
    have hBR : B ≠ R := by omega
    have hTR : w.heap.size ≠ R := by omega
    have hn1 : 2 ≤ 2 + x6 := by omega
    have hn2 : 2 + x6 ≤ 10 := by omega
    obtain ⟨nn, hnn⟩ : ∃ nn, 2 + x6 = nn := ⟨_, rfl⟩
    go_wp2_with fail
    rw [hnn] at hn1 hn2
    clear hnn hx6 hx6'
    go_loopw [8] (fun i W => ∃ (kk : Nat) (cv : Value), i = .int .i64 kk ∧ (kk : Int) + 1 ≤ nn ∧ PBx w R a m c z (p + 60 + 900 * kk) F B w.heap.size 2 w.heap.size 41 81 cv kk W) (fun i _ => 10 - (intOf i).toNat)
    case atStart => exact ⟨0, _, rfl, by omega, b2⟩
    case round =>
      obtain ⟨kk, cv, rfl, hk, b⟩ := hrel
      clear b2
      by_cases hlt : (kk : Int) < nn - 1
      · have hkk : kk ≤ 1000 := by omega
        have hRN : R < w.heap.size := hRs
        have hS0 : ApS w R a m c z (p + 60 + 900 * kk) 80 10 F B w.heap.size 2 w.heap.size 41 81 cv kk 7 9 (fun _ => false) _ := b.start
        go_wp2_with fail
        refine region_inv3 [(0, 39), (1, 40), (2, 41), (3, 42), (4, 43), (5, 44), (6, 45), (7, 46), (8, 47)]
          (fun j v W => match j with
            | 0 => Is (.pointer (some ⟨B, 2, none⟩)) v
            | 1 => Is cv v
            | 2 => Is (.pointer (some ⟨R, 0, none⟩)) v
            | 3 => Is (.int .i64 procs) v
            | 4 => Is (.int .i64 nn) v
            | 5 => IsIns v
            | 6 => New1 R B w.heap.size cv.ownBlock v W
            | 7 => AppV w.heap.size 81 (kk + 1) R B v W
            | 8 => Is (.pointer (some ⟨B, 2, none⟩)) v
            | _ => True)
          (fun L W => ApS w R a m c z (p + 60 + 900 * kk) 80 10 F B w.heap.size 2 w.heap.size 41 81 cv kk 7 9 L W ∧ Ord 1 6 7 9 L) (TA R B cv.ownBlock 7)
          (by kernel_rfl) (by kernel_rfl) (by kernel_rfl) (by kernel_rfl) (by kernel_rfl) rfl ⟨hS0, Ord.start _ _ _ _⟩ ?_ ?_ ?_
        · intro i j v W W' hji hφ hT
          match j, hji, hφ with
          | 0, _, hφ => exact hφ
          | 1, _, hφ => exact hφ
          | 2, _, hφ => exact hφ
          | 3, _, hφ => exact hφ
          | 4, _, hφ => exact hφ
          | 5, _, hφ => exact hφ
          | 6, _, hφ => exact New1.next hφ hT
          | 7, hji, hφ => exact AppV.next hφ hT (fun x => hji x.symm)
          | 8, _, hφ => exact hφ
          | 9, _, hφ => exact hφ
          | _ + 10, _, _ => trivial
        · intro i L vals W hi' hφ hSS hL hd
          have hi2 : i < 10 := hi'
          clear hi'
          obtain ⟨hS, hord⟩ := hSS
          have hbd := DS.bd (K := 80) (n := 10) (L := L)
          obtain ⟨p', hp', hr⟩ := hS.ds.rd
          have hrs := hr.size
          have hlB := hS.lB
          rcases (show i = 0 ∨ i = 1 ∨ i = 2 ∨ i = 3 ∨ i = 4 ∨ i = 5 ∨ i = 6 ∨ i = 7 ∨ i = 8 ∨ i = 9 by omega) with rfl | rfl | rfl | rfl | rfl | rfl | rfl | rfl | rfl | rfl
          · refine wpAt_of rfl rfl ?_
            simp only [frOf, Act.put]
            go_wp2_with fail
            first | exact ⟨trivial, rfl, TA.refl _ _ _ _ _ _, hS.pure hL (by decide) (by decide) (by decide) hBR hTR hRN, hord.step (by decide) (by decide)⟩ | exact ⟨rfl, TA.refl _ _ _ _ _ _, hS.pure hL (by decide) (by decide) (by decide) hBR hTR hRN, hord.step (by decide) (by decide)⟩
          · have k0 : vals 0 = .pointer (some ⟨B, 2, none⟩) := hφ 0 (hd 0 (by decide))
            have hst : L 9 = false := by cases h : L 9 with | false => rfl | true => (rw [(hord.1 h).1] at hL; cases hL)
            have cL := hS.cell hst
            refine wpAt_of rfl rfl ?_
            simp only [frOf, Act.put]
            go_wp2_with fail
            first | exact ⟨trivial, rfl, TA.refl _ _ _ _ _ _, hS.pure hL (by decide) (by decide) (by decide) hBR hTR hRN, hord.step (by decide) (by decide)⟩ | exact ⟨rfl, TA.refl _ _ _ _ _ _, hS.pure hL (by decide) (by decide) (by decide) hBR hTR hRN, hord.step (by decide) (by decide)⟩
          · refine wpAt_of rfl rfl ?_
            simp only [frOf, Act.put]
            go_wp2_with fail
            first | exact ⟨trivial, rfl, TA.refl _ _ _ _ _ _, hS.pure hL (by decide) (by decide) (by decide) hBR hTR hRN, hord.step (by decide) (by decide)⟩ | exact ⟨rfl, TA.refl _ _ _ _ _ _, hS.pure hL (by decide) (by decide) (by decide) hBR hTR hRN, hord.step (by decide) (by decide)⟩
          · refine wpAt_of rfl rfl ?_
            simp only [frOf, Act.put]
            go_wp2_with fail
            first | exact ⟨trivial, rfl, TA.refl _ _ _ _ _ _, hS.pure hL (by decide) (by decide) (by decide) hBR hTR hRN, hord.step (by decide) (by decide)⟩ | exact ⟨rfl, TA.refl _ _ _ _ _ _, hS.pure hL (by decide) (by decide) (by decide) hBR hTR hRN, hord.step (by decide) (by decide)⟩
          · refine wpAt_of rfl rfl ?_
            simp only [frOf, Act.put]
            go_wp2_with fail
            first | exact ⟨trivial, rfl, TA.refl _ _ _ _ _ _, hS.pure hL (by decide) (by decide) (by decide) hBR hTR hRN, hord.step (by decide) (by decide)⟩ | exact ⟨rfl, TA.refl _ _ _ _ _ _, hS.pure hL (by decide) (by decide) (by decide) hBR hTR hRN, hord.step (by decide) (by decide)⟩
          · have k2 : vals 2 = .pointer (some ⟨R, 0, none⟩) := hφ 2 (hd 2 (by decide))
            have k3 : vals 3 = .int .i64 procs := hφ 3 (hd 3 (by decide))
            have k4 : vals 4 = .int .i64 nn := hφ 4 (hd 4 (by decide))
            refine wpAt_of rfl rfl ?_
            simp only [frOf, Act.put]
            go_wp2_with fail
            refine (insD R a m c z p' procs nn _ hr (by omega) hp1 hp2 (by omega) (by omega)).mono ?_
            rintro e W' ⟨v, p2, hv, rfl, hp2, hR', g⟩
            go_wp2_with fail
            first | exact ⟨trivial, hv, TA.of g, hS.call hL (by decide) (by decide) (by decide) hBR hTR hRN hR' g (by omega), hord.step (by decide) (by decide)⟩ | exact ⟨hv, TA.of g, hS.call hL (by decide) (by decide) (by decide) hBR hTR hRN hR' g (by omega), hord.step (by decide) (by decide)⟩
          · obtain ⟨o5_0, o5_1, o5_2, o5_3, o5_4, o5_5, o5_6, o5_7, k5, i5_0, i5_1, i5_2, i5_3, i5_4, i5_5, i5_6, i5_7⟩ : IsIns (vals 5) := hφ 5 (hd 5 (by decide))
            have hob : ∀ g, cv.ownBlock = some g → g < W.heap.size := fun g hg => by
              cases hq : L 7 with
              | false => exact ((hS.own hq).blk hg).2.1
              | true => exact absurd (hord.2 hq) (by rw [hL]; simp)
            refine wpAt_of rfl rfl ?_
            simp only [frOf, Act.put]
            go_wp2_with fail
            first | exact ⟨trivial, New1.made (by omega) hrs hlB hob ⟨_, rfl, i5_0⟩ ⟨_, rfl, i5_1⟩ ⟨_, rfl, i5_2⟩ ⟨_, rfl, i5_3⟩ ⟨_, rfl, i5_4⟩ ⟨_, rfl, i5_5⟩ ⟨_, rfl, i5_6⟩ ⟨_, rfl, i5_7⟩, TA.of (World.grownBy_alloc _ _ _), hS.alloc hL (by decide) (by decide) (by decide) hBR hTR hRN _, hord.step (by decide) (by decide)⟩ | exact ⟨New1.made (by omega) hrs hlB hob ⟨_, rfl, i5_0⟩ ⟨_, rfl, i5_1⟩ ⟨_, rfl, i5_2⟩ ⟨_, rfl, i5_3⟩ ⟨_, rfl, i5_4⟩ ⟨_, rfl, i5_5⟩ ⟨_, rfl, i5_6⟩ ⟨_, rfl, i5_7⟩, TA.of (World.grownBy_alloc _ _ _), hS.alloc hL (by decide) (by decide) (by decide) hBR hTR hRN _, hord.step (by decide) (by decide)⟩
          · have k1 : vals 1 = cv := hφ 1 (hd 1 (by decide))
            obtain ⟨g6, y6_0, y6_1, y6_2, y6_3, y6_4, y6_5, y6_6, y6_7, k6, a6, b6, c6, d6, e6, ⟨j6_0, j6_1, j6_2, j6_3, j6_4, j6_5, j6_6, j6_7⟩, u6⟩ : New1 R B w.heap.size cv.ownBlock (vals 6) W := hφ 6 (hd 6 (by decide))
            have hst : L 9 = false := by cases h : L 9 with | false => rfl | true => (rw [(hord.1 h).2] at hL; cases hL)
            obtain ⟨xs, ow, hxs⟩ := hS.own hL
            refine wpAt_own_append rfl rfl rfl (by simp only [frOf, Act.put]; simp) (.tmp 40) (.tmp 45) 39 rfl w.heap.size 81 i0 (.agg #[.int .i64 0, .int .i64 0, .int .i64 0, .int .i64 0, .int .i64 0, .int .i64 0, .int .i64 0, .int .i64 0]) 8 64 Try.underlying39 hi hz0 hz1 hz2 rfl (by decide) _ _ _ (by simp only [frOf, Act.put, List.setIfInBounds_toArray, List.set_cons_succ, List.set_cons_zero]; exact k1) ow ⟨g6, 0, none⟩ 1 1 [y6_0, y6_1, y6_2, y6_3, y6_4, y6_5, y6_6, y6_7] (by simp only [frOf, Act.put, List.setIfInBounds_toArray, List.set_cons_succ, List.set_cons_zero]; exact k6) rfl (cells8 u6) (all8 (isI_one j6_0) (isI_one j6_1) (isI_one j6_2) (isI_one j6_3) (isI_one j6_4) (isI_one j6_5) (isI_one j6_6) (isI_one j6_7)) (by simp [maxLen]; omega) (by omega) (by omega) ?_
            intro v' w' o' g'
            have hS' := hS.app hL (by decide) hst (by decide) (by decide) hRN (Nat.le_refl _) hF1 g'
            have ho' : OwnI w.heap.size 81 v' (kk + 1) w' := ⟨_, o', fun x hx => (List.mem_append.1 hx).elim (hxs x) (all8 j6_0 j6_1 j6_2 j6_3 j6_4 j6_5 j6_6 j6_7 x)⟩
            have hv' : AppV w.heap.size 81 (kk + 1) R B v' w' := ⟨ho', fun x => by have := (ho'.blk x).1; omega, hS'.typ.ne ho' (by decide)⟩
            exact ⟨hv', TA.app g', hS', hord.app (by decide) (hd 6 (by decide))⟩
          · refine wpAt_of rfl rfl ?_
            simp only [frOf, Act.put]
            go_wp2_with fail
            first | exact ⟨trivial, rfl, TA.refl _ _ _ _ _ _, hS.pure hL (by decide) (by decide) (by decide) hBR hTR hRN, hord.step (by decide) (by decide)⟩ | exact ⟨rfl, TA.refl _ _ _ _ _ _, hS.pure hL (by decide) (by decide) (by decide) hBR hTR hRN, hord.step (by decide) (by decide)⟩
          · have v7 : AppV w.heap.size 81 (kk + 1) R B (vals 7) W := hφ 7 (hd 7 (by decide))
            have k8 : vals 8 = .pointer (some ⟨B, 2, none⟩) := hφ 8 (hd 8 (by decide))
            have hLa := hd 7 (by decide)
            have hLl := hd 1 (by decide)
            have cL := hS.cell hL
            have fL := hS.free
            obtain ⟨vv, hvv⟩ : ∃ vv, vals 7 = vv := ⟨_, rfl⟩
            rw [hvv] at v7
            obtain ⟨gv, cpv, rfl⟩ : ∃ g cap, vv = .slice (some ⟨g, 0, none⟩) (kk + 1) cap := by
              obtain ⟨xs, ow, _⟩ := v7.1
              rcases ow.2 with ⟨_, h⟩ | ⟨g, cap, _, h, _⟩
              · omega
              · exact ⟨g, cap, h⟩
            refine wpAt_none rfl rfl ?_
            simp only [frOf, Act.put, hvv]
            go_wp2_with fail
            have hS' := hS.sto hL (by decide) hLa (by decide) hBR (by omega) hF2 hold v7 (by rw [cL]; rfl)
            first | exact ⟨trivial, trivial, TA.sto, hS', hord.sto hLl hLa⟩ | exact ⟨trivial, TA.sto, hS', hord.sto hLl hLa⟩
        · intro L vals W hall hφ hSS
          obtain ⟨hS, _⟩ := hSS
          obtain ⟨v, b'⟩ := PBx.of hS (hall 9 (by decide))
          clear hS hφ
          simp only [frOf, Act.put, List.setIfInBounds_toArray, List.set_cons_succ, List.set_cons_zero]
          go_wp2_with fail
          go_roundw
          case rel => exact ⟨kk + 1, v, by go_num, by omega, b'.more (by omega)⟩
          case measure => simp [intOf]; omega
      · obtain ⟨p8, hp8, h8⟩ := b.d.rd
        go_wp2_with fail
        refine (oddS R a m c z p8 9 _ h8 (by omega) (by omega) (by omega)).mono ?_
        rintro e w9 ⟨od, rfl, h9, g9⟩
        have b9 := b.next (Q' := p + 9000) hBR hTR hRs h9 g9 (by omega)
        clear b h8 h9 g9 hp8
        obtain ⟨k, hkk⟩ : ∃ k, k = kk := ⟨_, rfl⟩
        have hk9 : k ≤ 9 := by omega
        rw [← hkk] at b9
        clear hkk hk hlt
        cases od
        · have hS0 : EnS w R a m c z (p + 9000) 80 6 F B w.heap.size w.heap.size 41 81 lo up cv k 4 5 (fun _ => false) _ := EnS.start b9
          clear b9
          go_wp2_with fail
          refine region_inv3 [(0, 56), (1, 57), (2, 58), (3, 59), (4, 60)]
            (fun j v W => match j with
              | 0 => Is (.agg #[.int .i64 lo, .int .i64 up, cv]) v
              | 1 => Is (.pointer (some ⟨R, 0, none⟩)) v
              | 2 => Nt (4) v
              | 3 => IsIns v
              | 4 => EndV w.heap.size 81 (k + 1) R w.heap.size lo up v W
              | _ => True)
            (fun L W => EnS w R a m c z (p + 9000) 80 6 F B w.heap.size w.heap.size 41 81 lo up cv k 4 5 L W ∧ Aft 4 5 L) (TA R w.heap.size cv.ownBlock 4)
            (by kernel_rfl) (by kernel_rfl) (by kernel_rfl) (by kernel_rfl) (by kernel_rfl) rfl ⟨hS0, Aft.start _ _⟩ ?_ ?_ ?_
          · intro i j v W W' hji hφ hT
            match j, hji, hφ with
            | 0, _, hφ => exact hφ
            | 1, _, hφ => exact hφ
            | 2, _, hφ => exact hφ
            | 3, _, hφ => exact hφ
            | 4, hji, hφ => exact EndV.next hφ hT (fun x => hji x.symm)
            | 5, _, hφ => exact hφ
            | _ + 6, _, _ => trivial
          · intro i L vals W hi' hφ hSS hL hd
            obtain ⟨hS, haft⟩ := hSS
            have hi2 : i < 6 := hi'
            clear hi'
            have hbd := DS.bd (K := 80) (n := 6) (L := L)
            obtain ⟨p', hp', hr⟩ := hS.ds.rd
            have hrs := hr.size
            have hwW := hS.ds.grown.size
            rcases (show i = 0 ∨ i = 1 ∨ i = 2 ∨ i = 3 ∨ i = 4 ∨ i = 5 by omega) with rfl | rfl | rfl | rfl | rfl | rfl
            · obtain ⟨q0, c0, e0⟩ := Dr.has hS.ds (hF0 ▸ prcF_0)
              obtain ⟨q1, c1, e1⟩ := Dr.has hS.ds (hF0 ▸ prcF_1)
              simp only [Is] at e0 e1
              subst e0 e1
              have c2 := hS.cl
              refine wpAt_of rfl rfl ?_
              simp only [frOf, Act.put]
              go_wp2_with fail
              first | exact ⟨trivial, rfl, TA.refl _ _ _ _ _ _, hS.pure hL (by decide) (by decide) (by decide) hBR hTR hRs, haft.step (by decide)⟩ | exact ⟨rfl, TA.refl _ _ _ _ _ _, hS.pure hL (by decide) (by decide) (by decide) hBR hTR hRs, haft.step (by decide)⟩
            · refine wpAt_of rfl rfl ?_
              simp only [frOf, Act.put]
              go_wp2_with fail
              first | exact ⟨trivial, rfl, TA.refl _ _ _ _ _ _, hS.pure hL (by decide) (by decide) (by decide) hBR hTR hRs, haft.step (by decide)⟩ | exact ⟨rfl, TA.refl _ _ _ _ _ _, hS.pure hL (by decide) (by decide) (by decide) hBR hTR hRs, haft.step (by decide)⟩
            · have k1 : vals 1 = .pointer (some ⟨R, 0, none⟩) := (hφ 1 (hd 1 (by decide)))
              refine wpAt_of rfl rfl ?_
              simp only [frOf, Act.put]
              go_wp2_with fail
              refine (pick R a m c z p' (4) _ hr (by omega) (by omega) (by omega)).mono ?_
              rintro e W' ⟨x, hx1, hx2, rfl, hR', g⟩
              go_wp2_with fail
              first | exact ⟨trivial, ⟨x, hx1, hx2, rfl⟩, TA.of g, hS.call hL (by decide) (by decide) (by decide) hBR hTR hRs hR' g (by omega), haft.step (by decide)⟩ | exact ⟨⟨x, hx1, hx2, rfl⟩, TA.of g, hS.call hL (by decide) (by decide) (by decide) hBR hTR hRs hR' g (by omega), haft.step (by decide)⟩
            · obtain ⟨n2, l2, h2, k2⟩ : Nt (4) (vals 2) := (hφ 2 (hd 2 (by decide)))
              refine wpAt_of rfl rfl ?_
              simp only [frOf, Act.put]
              go_wp2_with fail
              have hI : IsIns (.agg #[.int .i64 12, .int .i64 0, .int .i64 n2, .int .i64 0, .int .i64 0, .int .i64 0, .int .i64 0, .int .i64 0]) := ⟨_, _, _, _, _, _, _, _, rfl, by constructor <;> omega, by constructor <;> omega, by constructor <;> omega, by constructor <;> omega, by constructor <;> omega, by constructor <;> omega, by constructor <;> omega, by constructor <;> omega⟩
              first | exact ⟨trivial, hI, TA.refl _ _ _ _ _ _, hS.pure hL (by decide) (by decide) (by decide) hBR hTR hRs, haft.step (by decide)⟩ | exact ⟨hI, TA.refl _ _ _ _ _ _, hS.pure hL (by decide) (by decide) (by decide) hBR hTR hRs, haft.step (by decide)⟩
            · have k0 : vals 0 = .agg #[.int .i64 lo, .int .i64 up, cv] := (hφ 0 (hd 0 (by decide)))
              obtain ⟨o0, o1, o2, o3, o4, o5, o6, o7, k3, j0, j1, j2, j3, j4, j5, j6, j7⟩ : IsIns (vals 3) := (hφ 3 (hd 3 (by decide)))
              have hst : L 5 = false := haft.no hL
              refine wpAt_of rfl rfl ?_
              simp only [frOf, Act.put]
              go_wp2_with fail
              refine (endD w.heap.size lo up cv k o0 o1 o2 o3 o4 o5 o6 o7 _ (by omega) hwW ⟨j0, j1, j2, j3, j4, j5, j6, j7⟩ (hS.own hL)).mono ?_
              rintro e W' ⟨v, rfl, ho', g'⟩
              go_wp2_with fail
              have hS' := hS.app hL (by decide) hst (by decide) (by decide) hRs (Nat.le_refl _) hF1 g'
              have hV : EndV w.heap.size 81 (k + 1) R w.heap.size lo up (.agg #[.int .i64 lo, .int .i64 up, v]) W' := ⟨v, rfl, ho', fun x => by have := (ho'.blk x).1; omega, hS'.tT.ne ho' (by decide)⟩
              first | exact ⟨trivial, hV, TA.app g', hS', haft.step (by decide)⟩ | exact ⟨hV, TA.app g', hS', haft.step (by decide)⟩
            · obtain ⟨v, k4, hv⟩ : EndV w.heap.size 81 (k + 1) R w.heap.size lo up (vals 4) W := (hφ 4 (hd 4 (by decide)))
              obtain ⟨u0, c0, _⟩ := Dr.has hS.ds (hF0 ▸ prcF_T.1)
              obtain ⟨u1, c1, _⟩ := Dr.has hS.ds (hF0 ▸ prcF_T.2.1)
              obtain ⟨u2, c2, _⟩ := Dr.has hS.ds (hF0 ▸ prcF_T.2.2)
              have f0 := Dr.free hS.ds (hF0 ▸ prcF_T.1)
              have f1 := Dr.free hS.ds (hF0 ▸ prcF_T.2.1)
              have f2 := Dr.free hS.ds (hF0 ▸ prcF_T.2.2)
              obtain ⟨gv, cpv, rfl⟩ := own_form hv.1
              have hS' := hS.sto hL (by decide) (hd 4 (by decide)) (by decide) hTR (by omega) (Nat.le_refl _) hF3 hold hv c0 c1 c2
              obtain ⟨e0, e1, e2⟩ := own3c c0 c1 c2
              refine wpAt_none rfl rfl ?_
              simp only [frOf, Act.put]
              go_wp2_with fail
              exact ⟨TA.sto3, Aft.sto (hd 4 (by decide))⟩
          · intro L vals W hall hφ hSS
            obtain ⟨hS, _⟩ := hSS
            obtain ⟨v, e0, e1, e2, ho⟩ := hS.done (hall 5 (by decide))
            obtain ⟨pz, hpz, hrz⟩ := hS.ds.done.rd
            have gr := hS.ds.grown
            clear hS hφ hS0
            simp only [frOf, Act.put, List.setIfInBounds_toArray, List.set_cons_succ, List.set_cons_zero]
            go_wp2_with fail
            exact bodyPost_ret (v := .agg #[.int .i64 lo, .int .i64 up, v]) (by simp [results, Try.results43, go_sem, e0, e1, e2]) rfl ⟨lo, up, v, k + 1, pz, rfl, l0, l1, by omega, by omega, ho, by omega, hrz, gr⟩
        · have hS0 : EnS w R a m c z (p + 9000) 80 7 F B w.heap.size w.heap.size 41 81 lo up cv k 5 6 (fun _ => false) _ := EnS.start b9
          clear b9
          go_wp2_with fail
          refine region_inv3 [(0, 50), (1, 51), (2, 52), (3, 53), (4, 54), (5, 55)]
            (fun j v W => match j with
              | 0 => Is (.agg #[.int .i64 lo, .int .i64 up, cv]) v
              | 1 => Is (.pointer (some ⟨R, 0, none⟩)) v
              | 2 => Is (.int .i64 nn) v
              | 3 => Nt (nn) v
              | 4 => IsIns v
              | 5 => EndV w.heap.size 81 (k + 1) R w.heap.size lo up v W
              | _ => True)
            (fun L W => EnS w R a m c z (p + 9000) 80 7 F B w.heap.size w.heap.size 41 81 lo up cv k 5 6 L W ∧ Aft 5 6 L) (TA R w.heap.size cv.ownBlock 5)
            (by kernel_rfl) (by kernel_rfl) (by kernel_rfl) (by kernel_rfl) (by kernel_rfl) rfl ⟨hS0, Aft.start _ _⟩ ?_ ?_ ?_
          · intro i j v W W' hji hφ hT
            match j, hji, hφ with
            | 0, _, hφ => exact hφ
            | 1, _, hφ => exact hφ
            | 2, _, hφ => exact hφ
            | 3, _, hφ => exact hφ
            | 4, _, hφ => exact hφ
            | 5, hji, hφ => exact EndV.next hφ hT (fun x => hji x.symm)
            | 6, _, hφ => exact hφ
            | _ + 7, _, _ => trivial
          · intro i L vals W hi' hφ hSS hL hd
            obtain ⟨hS, haft⟩ := hSS
            have hi2 : i < 7 := hi'
            clear hi'
            have hbd := DS.bd (K := 80) (n := 7) (L := L)
            obtain ⟨p', hp', hr⟩ := hS.ds.rd
            have hrs := hr.size
            have hwW := hS.ds.grown.size
            rcases (show i = 0 ∨ i = 1 ∨ i = 2 ∨ i = 3 ∨ i = 4 ∨ i = 5 ∨ i = 6 by omega) with rfl | rfl | rfl | rfl | rfl | rfl | rfl
            · obtain ⟨q0, c0, e0⟩ := Dr.has hS.ds (hF0 ▸ prcF_0)
              obtain ⟨q1, c1, e1⟩ := Dr.has hS.ds (hF0 ▸ prcF_1)
              simp only [Is] at e0 e1
              subst e0 e1
              have c2 := hS.cl
              refine wpAt_of rfl rfl ?_
              simp only [frOf, Act.put]
              go_wp2_with fail
              first | exact ⟨trivial, rfl, TA.refl _ _ _ _ _ _, hS.pure hL (by decide) (by decide) (by decide) hBR hTR hRs, haft.step (by decide)⟩ | exact ⟨rfl, TA.refl _ _ _ _ _ _, hS.pure hL (by decide) (by decide) (by decide) hBR hTR hRs, haft.step (by decide)⟩
            · refine wpAt_of rfl rfl ?_
              simp only [frOf, Act.put]
              go_wp2_with fail
              first | exact ⟨trivial, rfl, TA.refl _ _ _ _ _ _, hS.pure hL (by decide) (by decide) (by decide) hBR hTR hRs, haft.step (by decide)⟩ | exact ⟨rfl, TA.refl _ _ _ _ _ _, hS.pure hL (by decide) (by decide) (by decide) hBR hTR hRs, haft.step (by decide)⟩
            · refine wpAt_of rfl rfl ?_
              simp only [frOf, Act.put]
              go_wp2_with fail
              first | exact ⟨trivial, rfl, TA.refl _ _ _ _ _ _, hS.pure hL (by decide) (by decide) (by decide) hBR hTR hRs, haft.step (by decide)⟩ | exact ⟨rfl, TA.refl _ _ _ _ _ _, hS.pure hL (by decide) (by decide) (by decide) hBR hTR hRs, haft.step (by decide)⟩
            · have k1 : vals 1 = .pointer (some ⟨R, 0, none⟩) := (hφ 1 (hd 1 (by decide)))
              have k2 : vals 2 = .int .i64 nn := (hφ 2 (hd 2 (by decide)))
              refine wpAt_of rfl rfl ?_
              simp only [frOf, Act.put]
              go_wp2_with fail
              refine (pick R a m c z p' (nn) _ hr (by omega) (by omega) (by omega)).mono ?_
              rintro e W' ⟨x, hx1, hx2, rfl, hR', g⟩
              go_wp2_with fail
              first | exact ⟨trivial, ⟨x, hx1, hx2, rfl⟩, TA.of g, hS.call hL (by decide) (by decide) (by decide) hBR hTR hRs hR' g (by omega), haft.step (by decide)⟩ | exact ⟨⟨x, hx1, hx2, rfl⟩, TA.of g, hS.call hL (by decide) (by decide) (by decide) hBR hTR hRs hR' g (by omega), haft.step (by decide)⟩
            · obtain ⟨n3, l3, h3, k3⟩ : Nt (nn) (vals 3) := (hφ 3 (hd 3 (by decide)))
              refine wpAt_of rfl rfl ?_
              simp only [frOf, Act.put]
              go_wp2_with fail
              have hI : IsIns (.agg #[.int .i64 9, .int .i64 0, .int .i64 0, .int .i64 0, .int .i64 0, .int .i64 0, .int .i64 0, .int .i64 n3]) := ⟨_, _, _, _, _, _, _, _, rfl, by constructor <;> omega, by constructor <;> omega, by constructor <;> omega, by constructor <;> omega, by constructor <;> omega, by constructor <;> omega, by constructor <;> omega, by constructor <;> omega⟩
              first | exact ⟨trivial, hI, TA.refl _ _ _ _ _ _, hS.pure hL (by decide) (by decide) (by decide) hBR hTR hRs, haft.step (by decide)⟩ | exact ⟨hI, TA.refl _ _ _ _ _ _, hS.pure hL (by decide) (by decide) (by decide) hBR hTR hRs, haft.step (by decide)⟩
            · have k0 : vals 0 = .agg #[.int .i64 lo, .int .i64 up, cv] := (hφ 0 (hd 0 (by decide)))
              obtain ⟨o0, o1, o2, o3, o4, o5, o6, o7, k4, j0, j1, j2, j3, j4, j5, j6, j7⟩ : IsIns (vals 4) := (hφ 4 (hd 4 (by decide)))
              have hst : L 6 = false := haft.no hL
              refine wpAt_of rfl rfl ?_
              simp only [frOf, Act.put]
              go_wp2_with fail
              refine (endD w.heap.size lo up cv k o0 o1 o2 o3 o4 o5 o6 o7 _ (by omega) hwW ⟨j0, j1, j2, j3, j4, j5, j6, j7⟩ (hS.own hL)).mono ?_
              rintro e W' ⟨v, rfl, ho', g'⟩
              go_wp2_with fail
              have hS' := hS.app hL (by decide) hst (by decide) (by decide) hRs (Nat.le_refl _) hF1 g'
              have hV : EndV w.heap.size 81 (k + 1) R w.heap.size lo up (.agg #[.int .i64 lo, .int .i64 up, v]) W' := ⟨v, rfl, ho', fun x => by have := (ho'.blk x).1; omega, hS'.tT.ne ho' (by decide)⟩
              first | exact ⟨trivial, hV, TA.app g', hS', haft.step (by decide)⟩ | exact ⟨hV, TA.app g', hS', haft.step (by decide)⟩
            · obtain ⟨v, k5, hv⟩ : EndV w.heap.size 81 (k + 1) R w.heap.size lo up (vals 5) W := (hφ 5 (hd 5 (by decide)))
              obtain ⟨u0, c0, _⟩ := Dr.has hS.ds (hF0 ▸ prcF_T.1)
              obtain ⟨u1, c1, _⟩ := Dr.has hS.ds (hF0 ▸ prcF_T.2.1)
              obtain ⟨u2, c2, _⟩ := Dr.has hS.ds (hF0 ▸ prcF_T.2.2)
              have f0 := Dr.free hS.ds (hF0 ▸ prcF_T.1)
              have f1 := Dr.free hS.ds (hF0 ▸ prcF_T.2.1)
              have f2 := Dr.free hS.ds (hF0 ▸ prcF_T.2.2)
              obtain ⟨gv, cpv, rfl⟩ := own_form hv.1
              have hS' := hS.sto hL (by decide) (hd 5 (by decide)) (by decide) hTR (by omega) (Nat.le_refl _) hF3 hold hv c0 c1 c2
              obtain ⟨e0, e1, e2⟩ := own3c c0 c1 c2
              refine wpAt_none rfl rfl ?_
              simp only [frOf, Act.put]
              go_wp2_with fail
              exact ⟨TA.sto3, Aft.sto (hd 5 (by decide))⟩
          · intro L vals W hall hφ hSS
            obtain ⟨hS, _⟩ := hSS
            obtain ⟨v, e0, e1, e2, ho⟩ := hS.done (hall 6 (by decide))
            obtain ⟨pz, hpz, hrz⟩ := hS.ds.done.rd
            have gr := hS.ds.grown
            clear hS hφ hS0
            simp only [frOf, Act.put, List.setIfInBounds_toArray, List.set_cons_succ, List.set_cons_zero]
            go_wp2_with fail
            exact bodyPost_ret (v := .agg #[.int .i64 lo, .int .i64 up, v]) (by simp [results, Try.results43, go_sem, e0, e1, e2]) rfl ⟨lo, up, v, k + 1, pz, rfl, l0, l1, by omega, by omega, ho, by omega, hrz, gr⟩
end Go.Proofs.Ytiehokibfdaleaa
