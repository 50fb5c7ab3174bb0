/- A drawn state: l21State. · Blocks of eight cells that a call holds on to while callees make memory of their own. No program in it. · Programs in memory: a list of procedures, each with a list of steps of eight ints. What the laws count of them. · Runs in memory: a list of calls, each with two lists of ints. What the laws count of them. · Steps, plainly: which are ok. No program in it. · Steps: what the laws do with them (copies, compares) and the model's InsOk, l3Form, l1In. Each answers what the plain functions say; it makes memory of its own alone. · Programs copied: what the laws' to.. functions make. Each copy lies in memory of its own. · Runs copied: what the laws' to.. functions make. Each copy lies in memory of its own. · Lists of bounds in memory, and states: bounds of variables, and of all cells together. What the laws count of them, copy, and hold against each other. · States, plainly, no program in it: what chapter 7's functions answer, as functions of the ends. -/
import Derived.Test.YtiehokibfdaleaaG6
import Derived.Test.YtiehokibfdaleaaG7
import Derived.Deep.DeepCutAuto
import Derived.Deep.CutBlock
import Derived.Test.YtiehokibfdaleaaG2
import Derived.Test.YtiehokibfdaleaaG1
import Derived.WalkKit
import Derived.ProofKit
import Derived.OpenShut
import Derived.Below
import Derived.Deep.QuietTactic
import Derived.BigQuiet
import Derived.Laws.MakeOwn
import Derived.Test.YtiehokibfdaleaaG3
namespace Go.Proofs.Ytiehokibfdaleaa
open Go.ChangeShapes Go.WideShapes Go.ChangeAt Go.RowKit

theorem infoItvQ : (Try.prog.info? 25).map (fun i => (i.zero, i.size, i.bytes)) = some (some (.agg #[.int .i64 0, .int .i64 0]), 2, 16) := by kernel_rfl
/-- A state was drawn: its bounds lie in a list of the call's own. -/
def DState (R : Nat) (a : Option Addr) (m c : Nat) (z : Nat → Int) (p : Nat) (w : World) (e : Ending) (w' : World) : Prop := ∃ (on : Bool) (aa : Option Addr) (g n cap : Nat) (zs : Nat → Int) (x y : Int) (p' : Nat), e = .returned (.agg #[.bool on, .slice aa n cap, .int .i64 x, .int .i64 y]) ∧ n ≤ 4 ∧ I64 x ∧ I64 y ∧ (0 < n → aa = some ⟨g, 0, none⟩ ∧ w.heap.size ≤ g ∧ g < w'.heap.size) ∧ (∀ j, j < 2 * n → w'.cell? ⟨g, j, none⟩ = some (.int .i64 (zs j)) ∧ I64 (zs j)) ∧ p' ≤ p + 3000 ∧ Rd w' R a m c z p' ∧ w.grownBy w' (some R)

set_option maxRecDepth 10000 in
set_option maxHeartbeats 8000000 in
theorem stateD (R : Nat) (a : Option Addr) (m c : Nat) (z : Nat → Int) (p : Nat) (n : Int) (w : World) (h : Rd w R a m c z p) (hp : p < 400000) (hn : 1 ≤ n) :
    Calls Try.prog 32 #[.pointer (some ⟨R, 0, none⟩), .int .i64 n] w (DState R a m c z p w) := by
  obtain ⟨i0, hi, hz0, hz1, hz2⟩ := info_parts infoItvQ
  have hRs := h.size
  have hold := old_rd h
  go_enter Try.func32, Try.ntmps32
  go_wp2_with fail
  refine (oddU R a m c z p 9 _ (h.kept (World.grownBy_alloc _ _ none) (by simp)) (by omega) (by omega)).mono ?_
  rintro e w1 ⟨o, p1, rfl, hp1, h1, g1⟩
  have gw1 : w.grownBy w1 (some R) := grown_trans (World.grownBy_alloc _ _ _) g1
  cases o
  case true =>
    obtain ⟨hc, hf⟩ := gcell g1
    have hne : ¬ w.heap.size = R := by omega
    have c0 : w1.cell? ⟨w.heap.size, 0, none⟩ = some (.bool false) := (hc w.heap.size 0 (by simp) hne).trans (by simp [go_sem])
    have c1 : w1.cell? ⟨w.heap.size, 1, none⟩ = some (.slice none 0 0) := (hc w.heap.size 1 (by simp) hne).trans (by simp [go_sem])
    have c2 : w1.cell? ⟨w.heap.size, 2, none⟩ = some (.int .i64 0) := (hc w.heap.size 2 (by simp) hne).trans (by simp [go_sem])
    have c3 : w1.cell? ⟨w.heap.size, 3, none⟩ = some (.int .i64 0) := (hc w.heap.size 3 (by simp) hne).trans (by simp [go_sem])
    have ff : ∀ i, w1.frozen? ⟨w.heap.size, i, none⟩ = false := fun i => (hf w.heap.size i (by simp) hne).trans (World.frozen?_alloc_new _ _ _ _)
    have f0 := ff 0
    have f1 := ff 1
    have f2 := ff 2
    have f3 := ff 3
    have Da : Dr w R a m c z p1 [] w1 := ⟨⟨p1, Nat.le_refl _, h1⟩, gw1, Fs.nil _ _ _⟩
    obtain ⟨e0, e1, e2, e3⟩ := own4q c0 c1 c2 c3
    have hT2 : w.heap.size ≠ R := by omega
    have Dz := (((Da.set hold hT2 (Nat.le_refl _) (i := 0) (v := .bool false) (fun f hf => by cases hf)).set hold hT2 (Nat.le_refl _) (i := 1) (v := .slice none 0 0) (fun f hf => by cases hf)).set hold hT2 (Nat.le_refl _) (i := 2) (v := .int .i64 0) (fun f hf => by cases hf)).set hold hT2 (Nat.le_refl _) (i := 3) (v := .int .i64 0) (fun f hf => by cases hf)
    obtain ⟨p8, hp8, h8⟩ := Dz.rd
    have g8 := Dz.grown
    clear Da Dz h1 g1 gw1 h hc hf ff
    go_wp2_with fail
    exact bodyPost_ret (v := .agg #[.bool false, .slice none 0 0, .int .i64 0, .int .i64 0]) (by simp [results, Try.results32, go_sem, e0, e1, e2, e3]) rfl ⟨false, none, 0, 0, 0, fun _ => 0, 0, 0, p8, rfl, by omega, by constructor <;> omega, by constructor <;> omega, fun e => absurd e (by decide), fun j hj => by omega, by omega, h8, g8⟩
  case false =>
  go_wp2_with fail
  refine (itvDA R a m c z p1 99999 _ h1 (by omega) (by omega)).mono ?_
  rintro e w2 ⟨x, y, p2, hx, hy, rfl, hp2, h2, g2⟩
  have b1 := PBq.made (Q := p + 21) 25 (eB := 27) hx hy hRs h2 (grown_trans g1 g2) (by omega)
  have hTB : w.heap.size < w2.heap.size := by have := (grown_trans g1 g2).size; simp at this; omega
  obtain ⟨F, hF⟩ : ∃ F, F = stF w2.heap.size w.heap.size := ⟨_, rfl⟩
  rw [← hF] at b1
  have hF1 : ∀ f ∈ F, f.b = w2.heap.size ∨ f.b = w.heap.size := by rw [hF]; exact stF_in
  have hF2 : ∀ f ∈ F, f.b = w2.heap.size → f.o ≠ 1 := by rw [hF]; exact stF_no (by omega)
  obtain ⟨B, hB⟩ : ∃ B, w2.heap.size = B := ⟨_, rfl⟩
  go_wp2_with fail
  rw [hB] at b1 hF1 hF2 hTB hF
  try rw [hB]
  clear hB
  have hBR : B ≠ R := by omega
  have hTR : w.heap.size ≠ R := by omega
  clear h2 g2 h1 g1 gw1 h hx hy
  go_loopw [6] (fun i W => ∃ (kk : Nat) (cv : Value), i = .int .i64 kk ∧ kk ≤ 4 ∧ PBq w R a m c z (p + 21 + 640 * kk) F B w.heap.size 1 w.heap.size 27 25 cv kk W) (fun i _ => 4 - (intOf i).toNat)
  case atStart => exact ⟨0, _, rfl, by omega, b1⟩
  case round =>
    obtain ⟨kk, cv, rfl, hk, b⟩ := hrel
    clear b1
    by_cases hlt : kk < 4
    · have t1 : (kk : Int) < 4 := by omega
      have hkk : kk ≤ 1000 := by omega
      have hRN : R < w.heap.size := hRs
      have hS0 : ApQ w R a m c z (p + 21 + 640 * kk) 80 8 F B w.heap.size 1 w.heap.size 27 25 cv kk 5 7 (fun _ => false) _ := b.start
      go_wp2_with fail
      refine region_inv3 [(0, 17), (1, 18), (2, 19), (3, 20), (4, 21), (5, 22), (6, 23)]
        (fun j v W => match j with
          | 0 => Is (.pointer (some ⟨B, 1, none⟩)) v
          | 1 => Is cv v
          | 2 => Is (.pointer (some ⟨R, 0, none⟩)) v
          | 3 => IsQ v
          | 4 => NewQ R B w.heap.size cv.ownBlock v W
          | 5 => AppQ w.heap.size 25 (kk + 1) R B v W
          | 6 => Is (.pointer (some ⟨B, 1, none⟩)) v
          | _ => True)
        (fun L W => ApQ w R a m c z (p + 21 + 640 * kk) 80 8 F B w.heap.size 1 w.heap.size 27 25 cv kk 5 7 L W ∧ Ord 1 4 5 7 L) (TA R B cv.ownBlock 5)
        (by kernel_rfl) (by kernel_rfl) (by kernel_rfl) (by kernel_rfl) (by kernel_rfl) rfl ⟨hS0, Ord.start _ _ _ _⟩ ?_ ?_ ?_
      · intro i j v W W' hji hφ hT
        match j, hji, hφ with
        | 0, _, hφ => exact hφ
        | 1, _, hφ => exact hφ
        | 2, _, hφ => exact hφ
        | 3, _, hφ => exact hφ
        | 4, _, hφ => exact NewQ.next hφ hT
        | 5, hji, hφ => exact AppQ.next hφ hT (fun x => hji x.symm)
        | 6, _, hφ => exact hφ
        | 7, _, hφ => exact hφ
        | _ + 8, _, _ => trivial
      · intro i L vals W hi' hφ hSS hL hd
        have hi2 : i < 8 := hi'
        clear hi'
        obtain ⟨hS, hord⟩ := hSS
        have hbd := DS.bd (K := 80) (n := 8) (L := L)
        obtain ⟨p', hp', hr⟩ := hS.ds.rd
        have hrs := hr.size
        have hlB := hS.lB
        rcases (show i = 0 ∨ i = 1 ∨ i = 2 ∨ i = 3 ∨ i = 4 ∨ i = 5 ∨ i = 6 ∨ i = 7 by omega) with rfl | rfl | rfl | rfl | rfl | rfl | rfl | rfl
        · refine wpAt_of rfl rfl ?_
          simp only [frOf, Act.put]
          go_wp2_with fail
          first | exact ⟨trivial, rfl, TA.refl _ _ _ _ _ _, hS.pure hL (by decide) (by decide) (by decide) hBR hTR hRN, hord.step (by decide) (by decide)⟩ | exact ⟨rfl, TA.refl _ _ _ _ _ _, hS.pure hL (by decide) (by decide) (by decide) hBR hTR hRN, hord.step (by decide) (by decide)⟩
        · have k0 : vals 0 = .pointer (some ⟨B, 1, none⟩) := hφ 0 (hd 0 (by decide))
          have hst : L 7 = false := by cases h : L 7 with | false => rfl | true => (rw [(hord.1 h).1] at hL; cases hL)
          have cL := hS.cell hst
          refine wpAt_of rfl rfl ?_
          simp only [frOf, Act.put]
          go_wp2_with fail
          first | exact ⟨trivial, rfl, TA.refl _ _ _ _ _ _, hS.pure hL (by decide) (by decide) (by decide) hBR hTR hRN, hord.step (by decide) (by decide)⟩ | exact ⟨rfl, TA.refl _ _ _ _ _ _, hS.pure hL (by decide) (by decide) (by decide) hBR hTR hRN, hord.step (by decide) (by decide)⟩
        · refine wpAt_of rfl rfl ?_
          simp only [frOf, Act.put]
          go_wp2_with fail
          first | exact ⟨trivial, rfl, TA.refl _ _ _ _ _ _, hS.pure hL (by decide) (by decide) (by decide) hBR hTR hRN, hord.step (by decide) (by decide)⟩ | exact ⟨rfl, TA.refl _ _ _ _ _ _, hS.pure hL (by decide) (by decide) (by decide) hBR hTR hRN, hord.step (by decide) (by decide)⟩
        · have k2 : vals 2 = .pointer (some ⟨R, 0, none⟩) := hφ 2 (hd 2 (by decide))
          refine wpAt_of rfl rfl ?_
          simp only [frOf, Act.put]
          go_wp2_with fail
          refine (itvDA R a m c z p' 99999 _ hr (by omega) (by omega)).mono ?_
          rintro e W' ⟨x, y, p2, hx, hy, rfl, hp2, hR', g⟩
          go_wp2_with fail
          first | exact ⟨trivial, ⟨x, y, rfl, hx, hy⟩, TA.of g, hS.call hL (by decide) (by decide) (by decide) hBR hTR hRN hR' g (by omega), hord.step (by decide) (by decide)⟩ | exact ⟨⟨x, y, rfl, hx, hy⟩, TA.of g, hS.call hL (by decide) (by decide) (by decide) hBR hTR hRN hR' g (by omega), hord.step (by decide) (by decide)⟩
        · obtain ⟨o3_0, o3_1, k3, i3_0, i3_1⟩ : IsQ (vals 3) := hφ 3 (hd 3 (by decide))
          have hob : ∀ g, cv.ownBlock = some g → g < W.heap.size := fun g hg => by
            cases hq : L 5 with
            | false => exact ((hS.own hq).blk hg).2.1
            | true => exact absurd (hord.2 hq) (by rw [hL]; simp)
          refine wpAt_of rfl rfl ?_
          simp only [frOf, Act.put]
          go_wp2_with fail
          first | exact ⟨trivial, NewQ.made (by have := hS.ds.grown.size; omega) hrs hlB hob ⟨_, rfl, i3_0⟩ ⟨_, rfl, i3_1⟩, TA.of (World.grownBy_alloc _ _ _), hS.alloc hL (by decide) (by decide) (by decide) hBR hTR hRN _, hord.step (by decide) (by decide)⟩ | exact ⟨NewQ.made (by have := hS.ds.grown.size; omega) hrs hlB hob ⟨_, rfl, i3_0⟩ ⟨_, rfl, i3_1⟩, TA.of (World.grownBy_alloc _ _ _), hS.alloc hL (by decide) (by decide) (by decide) hBR hTR hRN _, hord.step (by decide) (by decide)⟩
        · have k1 : vals 1 = cv := hφ 1 (hd 1 (by decide))
          obtain ⟨g4, y4_0, y4_1, k4, a4, b4, c4, d4, e4, ⟨j4_0, j4_1⟩, u4⟩ : NewQ R B w.heap.size cv.ownBlock (vals 4) W := hφ 4 (hd 4 (by decide))
          have hst : L 7 = false := by cases h : L 7 with | false => rfl | true => (rw [(hord.1 h).2] at hL; cases hL)
          obtain ⟨xs, ow, hxs⟩ := hS.own hL
          have hgs := hS.ds.grown.size
          refine wpAt_own_append rfl rfl rfl (by simp only [frOf, Act.put]; simp) (.tmp 18) (.tmp 21) 23 rfl w.heap.size 25 i0 (.agg #[.int .i64 0, .int .i64 0]) 2 16 Try.underlying23 hi hz0 hz1 hz2 rfl (by decide) _ _ _ (by simp only [frOf, Act.put, List.setIfInBounds_toArray, List.set_cons_succ, List.set_cons_zero]; exact k1) ow ⟨g4, 0, none⟩ 1 1 [y4_0, y4_1] (by simp only [frOf, Act.put, List.setIfInBounds_toArray, List.set_cons_succ, List.set_cons_zero]; exact k4) rfl (cellsQ u4) (allQ (isI_oneQ j4_0) (isI_oneQ j4_1)) (by simp [maxLen]; omega) (by omega) (by omega) ?_
          intro v' w' o' g'
          have hS' := hS.app hL (by decide) hst (by decide) (by decide) hRN (Nat.le_refl _) hF1 g'
          have ho' : OwnQ w.heap.size 25 v' (kk + 1) w' := ⟨_, o', fun x hx => (List.mem_append.1 hx).elim (hxs x) (allQ j4_0 j4_1 x)⟩
          have hv' : AppQ w.heap.size 25 (kk + 1) R B v' w' := ⟨ho', fun x => by have := (ho'.blk x).1; omega, hS'.typ.neQ ho' (by decide)⟩
          exact ⟨hv', TA.app g', hS', hord.app (by decide) (hd 4 (by decide))⟩
        · refine wpAt_of rfl rfl ?_
          simp only [frOf, Act.put]
          go_wp2_with fail
          first | exact ⟨trivial, rfl, TA.refl _ _ _ _ _ _, hS.pure hL (by decide) (by decide) (by decide) hBR hTR hRN, hord.step (by decide) (by decide)⟩ | exact ⟨rfl, TA.refl _ _ _ _ _ _, hS.pure hL (by decide) (by decide) (by decide) hBR hTR hRN, hord.step (by decide) (by decide)⟩
        · have v5 : AppQ w.heap.size 25 (kk + 1) R B (vals 5) W := hφ 5 (hd 5 (by decide))
          have k6 : vals 6 = .pointer (some ⟨B, 1, none⟩) := hφ 6 (hd 6 (by decide))
          have hLa := hd 5 (by decide)
          have hLl := hd 1 (by decide)
          have cL := hS.cell hL
          have fL := hS.free
          obtain ⟨vv, hvv⟩ : ∃ vv, vals 5 = vv := ⟨_, rfl⟩
          rw [hvv] at v5
          obtain ⟨gv, cpv, rfl⟩ : ∃ g cap, vv = .slice (some ⟨g, 0, none⟩) (kk + 1) cap := own_formQ v5.1
          refine wpAt_none rfl rfl ?_
          simp only [frOf, Act.put, hvv]
          go_wp2_with fail
          have hS' := hS.sto hL (by decide) hLa (by decide) hBR (by omega) hF2 hold v5 (by rw [cL]; rfl)
          first | exact ⟨trivial, trivial, TA.sto, hS', hord.sto hLl hLa⟩ | exact ⟨trivial, TA.sto, hS', hord.sto hLl hLa⟩
      · intro L vals W hall hφ hSS
        obtain ⟨hS, _⟩ := hSS
        obtain ⟨v, b'⟩ := PBq.of hS (hall 7 (by decide))
        clear hS hφ
        simp only [frOf, Act.put, List.setIfInBounds_toArray, List.set_cons_succ, List.set_cons_zero]
        go_wp2_with fail
        go_roundw
        case rel => exact ⟨kk + 1, v, by go_num, by omega, b'.more (by omega)⟩
        case measure => simp [intOf]; omega
    · obtain rfl : kk = 4 := by omega
      have hcl := b.cl
      rw [hF] at b
      obtain ⟨g, cap, rfl, hcap, hcap2, hgN, D4⟩ := PBq.all b (by omega) hBR hRs
      have hgB : g ≠ B := by
        obtain ⟨cur, hc⟩ := (b.ow.blk rfl).2.2
        obtain ⟨c', fr, hf⟩ := b.tB
        intro e
        rw [e, hf] at hc
        injection hc with hc
        injection hc with _ hc
        exact absurd hc (by decide)
      have hgT : g ≠ w.heap.size := by
        obtain ⟨cur, hc⟩ := (b.ow.blk rfl).2.2
        obtain ⟨c', fr, hf⟩ := b.tT
        intro e
        rw [e, hf] at hc
        injection hc with hc
        injection hc with _ hc
        exact absurd hc (by decide)
      clear b hF hF1 hF2 hk
      obtain ⟨F, hF⟩ : ∃ F, F = stA B w.heap.size g cap := ⟨_, rfl⟩
      rw [← hF] at D4
      have hgR : g ≠ R := by omega
      obtain ⟨p4, hp4, h4⟩ := D4.rd
      go_wp2_with fail
      refine (oddU R a m c z p4 n _ h4 (by omega) hn).mono ?_
      rintro e w5 ⟨o, p5, rfl, hp5, h5, g5⟩
      have D5 : Dr w R a m c z (p + 2601) F w5 := D4.next h5 g5 (by omega)
      have hcl : w5.cell? ⟨B, 1, none⟩ = some (.slice (some ⟨g, 0, none⟩) 4 cap) := g5.cell hcl (by intro e; injection e with e; exact hBR e)
      clear D4 h4 h5 g5
      go_upto_if 26 with fail
      go_cut [5] (fun v W => v = .pointer (some ⟨B, 0, none⟩) ∧ Dr w R a m c z (p + 2700) F W)
      case first =>
        cases o
        · go_wp2_with fail
          go_meet
          exact ⟨rfl, D5.more (by omega)⟩
        · obtain ⟨p6, hp6, h6⟩ := D5.rd
          go_wp2_with fail
          refine (pick R a m c z p6 4 _ h6 (by omega) (by omega) (by omega)).mono ?_
          rintro e w6 ⟨x6, hx6, hx6', rfl, h7, g7⟩
          have D6 : Dr w R a m c z (p + 2602) F w6 := D5.next h7 g7 (by omega)
          have hcl : w6.cell? ⟨B, 1, none⟩ = some (.slice (some ⟨g, 0, none⟩) 4 cap) := g7.cell hcl (by intro e; injection e with e; exact hBR e)
          clear D5 h6 h7 g7
          have hTne : w.heap.size ≠ B := by omega
          obtain rfl | rfl | rfl | rfl : x6 = 0 ∨ x6 = 1 ∨ x6 = 2 ∨ x6 = 3 := by omega
          · obtain ⟨q0, c0, _⟩ := D6.has (f := ⟨B, 0, IsB⟩) (by rw [hF]; simp [stA])
            have f0 := D6.free (f := ⟨B, 0, IsB⟩) (by rw [hF]; simp [stA])
            go_wp2_with fail
            go_meet
            exact ⟨rfl, (D6.set hold hBR (by omega) (hF ▸ stA_B hTne hgB 0 _ ⟨fun _ => ⟨_, rfl⟩, fun e => absurd e (by decide), fun e => absurd e (by decide), fun e => absurd e (by decide)⟩)).more (by omega)⟩
          · have hFg : ∀ v, IsI v → ∀ i, ∀ f ∈ F, f.b = g → f.o = i → f.P v := fun v hv i => hF ▸ stA_g hgB hgT v hv i
            go_wp2_with fail
            refine region_inv3 [(0, 38), (1, 39), (2, 40), (3, 41), (4, 42), (5, 43)]
              (fun j v W => match j with
                | 0 => Is (.pointer (some ⟨B, 1, none⟩)) v
                | 1 => Is (.slice (some ⟨g, 0, none⟩) 4 cap) v
                | 2 => Is (.pointer (some ⟨R, 0, none⟩)) v
                | 3 => Nt (4) v
                | 4 => Is (.agg #[.int .i64 1, .int .i64 0]) v
                | 5 => ∃ k : Nat, k < 4 ∧ v = .pointer (some ⟨g, k * 2, none⟩)
                | _ => True)
              (fun L W => DS w R a m c z (p + 2602) 1 7 F L W ∧ W.cell? ⟨B, 1, none⟩ = some (.slice (some ⟨g, 0, none⟩) 4 cap)) TT
              (by kernel_rfl) (by kernel_rfl) (by kernel_rfl) (by kernel_rfl) (by kernel_rfl) rfl ⟨DS.start D6.drew, hcl⟩ ?_ ?_ ?_
            · intro i j v W W' hji hφ hT
              match j, hφ with
              | 0, hφ => exact hφ
              | 1, hφ => exact hφ
              | 2, hφ => exact hφ
              | 3, hφ => exact hφ
              | 4, hφ => exact hφ
              | 5, hφ => exact hφ
              | 6, hφ => exact hφ
              | _ + 7, _ => trivial
            · intro i L vals W hi' hφ hS hL hd
              have hi2 : i < 7 := hi'
              clear hi'
              have hbd := DS.bd (K := 1) (n := 7) (L := L)
              obtain ⟨p', hp', hr⟩ := hS.1.rd
              have hrs := hr.size
              have cL := hS.2
              have hB' : B < W.heap.size := (hS.1.fs ⟨B, 0, IsB⟩ (hF ▸ by simp [stA])).2.2.1
              rcases (show i = 0 ∨ i = 1 ∨ i = 2 ∨ i = 3 ∨ i = 4 ∨ i = 5 ∨ i = 6 by omega) with rfl | rfl | rfl | rfl | rfl | rfl | rfl
              · refine wpAt_of rfl rfl ?_
                simp only [frOf, Act.put]
                go_wp2_with fail
                first | exact ⟨trivial, rfl, trivial, hS.1.pure hL (by decide), cL⟩ | exact ⟨rfl, trivial, hS.1.pure hL (by decide), cL⟩
              · have k0 : vals 0 = .pointer (some ⟨B, 1, none⟩) := hφ 0 (hd 0 (by decide))
                refine wpAt_of rfl rfl ?_
                simp only [frOf, Act.put]
                go_wp2_with fail
                first | exact ⟨trivial, rfl, trivial, hS.1.pure hL (by decide), cL⟩ | exact ⟨rfl, trivial, hS.1.pure hL (by decide), cL⟩
              · refine wpAt_of rfl rfl ?_
                simp only [frOf, Act.put]
                go_wp2_with fail
                first | exact ⟨trivial, rfl, trivial, hS.1.pure hL (by decide), cL⟩ | exact ⟨rfl, trivial, hS.1.pure hL (by decide), cL⟩
              · have k2 : vals 2 = .pointer (some ⟨R, 0, none⟩) := hφ 2 (hd 2 (by decide))
                refine wpAt_of rfl rfl ?_
                simp only [frOf, Act.put]
                go_wp2_with fail
                refine (pick R a m c z p' 4 _ hr (by omega) (by omega) (by omega)).mono ?_
                rintro e W' ⟨x, hx1, hx2, rfl, hR', g'⟩
                go_wp2_with fail
                have c' : W'.cell? ⟨B, 1, none⟩ = some (.slice (some ⟨g, 0, none⟩) 4 cap) := g'.cell cL (by intro e; injection e with e; exact hBR e)
                first | exact ⟨trivial, ⟨x, hx1, hx2, rfl⟩, trivial, hS.1.call hL (by decide) hR' g' (by omega), c'⟩ | exact ⟨⟨x, hx1, hx2, rfl⟩, trivial, hS.1.call hL (by decide) hR' g' (by omega), c'⟩
              · refine wpAt_of rfl rfl ?_
                simp only [frOf, Act.put]
                go_wp2_with fail
                first | exact ⟨trivial, rfl, trivial, hS.1.pure hL (by decide), cL⟩ | exact ⟨rfl, trivial, hS.1.pure hL (by decide), cL⟩
              · have k1 : vals 1 = .slice (some ⟨g, 0, none⟩) 4 cap := hφ 1 (hd 1 (by decide))
                obtain ⟨n3, l3, h3, k3⟩ : Nt (4) (vals 3) := hφ 3 (hd 3 (by decide))
                obtain ⟨n3, rfl⟩ := Int.eq_ofNat_of_zero_le l3
                have h3' : n3 < 4 := by omega
                refine wpAt_of rfl rfl ?_
                simp only [frOf, Act.put]
                go_wp2_with fail
                first | exact ⟨trivial, ⟨n3, h3', by simp⟩, trivial, hS.1.pure hL (by decide), cL⟩ | exact ⟨⟨n3, h3', by simp⟩, trivial, hS.1.pure hL (by decide), cL⟩
              · have k4 : vals 4 = .agg #[.int .i64 1, .int .i64 0] := hφ 4 (hd 4 (by decide))
                obtain ⟨n5, h5, k5⟩ : ∃ k : Nat, k < 4 ∧ vals 5 = .pointer (some ⟨g, k * 2, none⟩) := hφ 5 (hd 5 (by decide))
                obtain ⟨q0, c0, f0, q1, c1, f1⟩ : ∃ q0, W.cell? ⟨g, n5 * 2, none⟩ = some q0 ∧ W.frozen? ⟨g, n5 * 2, none⟩ = false ∧ ∃ q1, W.cell? ⟨g, n5 * 2 + 1, none⟩ = some q1 ∧ W.frozen? ⟨g, n5 * 2 + 1, none⟩ = false := by
                  have hh : ∀ j, j < 8 → (⟨g, j, IsI⟩ : Sp) ∈ F := fun j hj => by
                    rcases (show j = 0 ∨ j = 1 ∨ j = 2 ∨ j = 3 ∨ j = 4 ∨ j = 5 ∨ j = 6 ∨ j = 7 by omega) with rfl | rfl | rfl | rfl | rfl | rfl | rfl | rfl <;> (rw [hF]; simp [stA])
                  obtain ⟨q0, c0, _⟩ := Dr.has hS.1 (hh (n5 * 2) (by omega))
                  obtain ⟨q1, c1, _⟩ := Dr.has hS.1 (hh (n5 * 2 + 1) (by omega))
                  exact ⟨q0, c0, Dr.free hS.1 (hh (n5 * 2) (by omega)), q1, c1, Dr.free hS.1 (hh (n5 * 2 + 1) (by omega))⟩
                refine wpAt_none rfl rfl ?_
                simp only [frOf, Act.put]
                go_wp2_with fail
                have s1 := (hS.1.set hold hgR hgN (i := n5 * 2) (v := .int .i64 1) (hFg _ ⟨_, rfl, by constructor <;> omega⟩ _)).set hold hgR hgN (i := n5 * 2 + 1) (v := .int .i64 0) (hFg _ ⟨_, rfl, by constructor <;> omega⟩ _)
                have c' : ((W.setCell ⟨g, n5 * 2, none⟩ (.int .i64 1)).setCell ⟨g, n5 * 2 + 1, none⟩ (.int .i64 0)).cell? ⟨B, 1, none⟩ = some (.slice (some ⟨g, 0, none⟩) 4 cap) := by
                  rw [World.cell?_setCell_other _ _ _ _ (by intro e; injection e with e; exact hgB e), World.cell?_setCell_other _ _ _ _ (by intro e; injection e with e; exact hgB e)]
                  exact cL
                first | exact ⟨trivial, s1.pure hL (by decide), c'⟩ | exact ⟨trivial, trivial, s1.pure hL (by decide), c'⟩ | exact ⟨trivial, trivial, trivial, s1.pure hL (by decide), c'⟩
            · intro L vals W hall hφ hS
              have D8 : Dr w R a m c z (p + 2700) F W := hS.1.done.more (by omega)
              clear hS hφ
              simp only [frOf, Act.put, List.setIfInBounds_toArray, List.set_cons_succ, List.set_cons_zero]
              go_wp2_with fail
              go_meet
              exact ⟨rfl, D8⟩
          · obtain ⟨q2, c2, _⟩ := D6.has (f := ⟨B, 2, IsI⟩) (by rw [hF]; simp [stA])
            have f2 := D6.free (f := ⟨B, 2, IsI⟩) (by rw [hF]; simp [stA])
            obtain ⟨q3, c3, _⟩ := D6.has (f := ⟨B, 3, IsI⟩) (by rw [hF]; simp [stA])
            have f3 := D6.free (f := ⟨B, 3, IsI⟩) (by rw [hF]; simp [stA])
            go_wp2_with fail
            go_meet
            exact ⟨rfl, ((D6.set hold hBR (by omega) (hF ▸ stA_B hTne hgB 2 _ ⟨fun e => absurd e (by decide), fun e => absurd e (by decide), fun _ => ⟨_, rfl, by constructor <;> omega⟩, fun e => absurd e (by decide)⟩)).set hold hBR (by omega) (hF ▸ stA_B hTne hgB 3 _ ⟨fun e => absurd e (by decide), fun e => absurd e (by decide), fun e => absurd e (by decide), fun _ => ⟨_, rfl, by constructor <;> omega⟩⟩)).more (by omega)⟩
          · have f1 := D6.free (f := ⟨B, 1, IsSl g cap⟩) (by rw [hF]; simp [stA])
            have hc3 : 3 ≤ cap := by omega
            go_wp2_with fail
            go_meet
            exact ⟨rfl, (D6.set hold hBR (by omega) (hF ▸ stA_B hTne hgB 1 _ ⟨fun e => absurd e (by decide), fun _ => ⟨3, by omega, rfl⟩, fun e => absurd e (by decide), fun e => absurd e (by decide)⟩)).more (by omega)⟩
      case rest =>
        obtain ⟨rfl, D7⟩ := hcut
        clear hcl
        obtain ⟨_, c0, b0, rfl⟩ := D7.has (f := ⟨B, 0, IsB⟩) (by rw [hF]; simp [stA])
        obtain ⟨_, c1, n1, hn1, rfl⟩ := D7.has (f := ⟨B, 1, IsSl g cap⟩) (by rw [hF]; simp [stA])
        obtain ⟨_, c2, x2, rfl, i2⟩ := D7.has (f := ⟨B, 2, IsI⟩) (by rw [hF]; simp [stA])
        obtain ⟨_, c3, x3, rfl, i3⟩ := D7.has (f := ⟨B, 3, IsI⟩) (by rw [hF]; simp [stA])
        obtain ⟨t0, ct0, _⟩ := D7.has (f := ⟨w.heap.size, 0, AnyQ⟩) (by rw [hF]; simp [stA])
        have ft0 := D7.free (f := ⟨w.heap.size, 0, AnyQ⟩) (by rw [hF]; simp [stA])
        obtain ⟨t1, ct1, _⟩ := D7.has (f := ⟨w.heap.size, 1, AnyQ⟩) (by rw [hF]; simp [stA])
        have ft1 := D7.free (f := ⟨w.heap.size, 1, AnyQ⟩) (by rw [hF]; simp [stA])
        obtain ⟨t2, ct2, _⟩ := D7.has (f := ⟨w.heap.size, 2, AnyQ⟩) (by rw [hF]; simp [stA])
        have ft2 := D7.free (f := ⟨w.heap.size, 2, AnyQ⟩) (by rw [hF]; simp [stA])
        obtain ⟨t3, ct3, _⟩ := D7.has (f := ⟨w.heap.size, 3, AnyQ⟩) (by rw [hF]; simp [stA])
        have ft3 := D7.free (f := ⟨w.heap.size, 3, AnyQ⟩) (by rw [hF]; simp [stA])
        obtain ⟨e0, e1, e2, e3⟩ := own4q ct0 ct1 ct2 ct3
        have hTne : w.heap.size ≠ B := by omega
        have D8 := (((D7.set hold hTR (Nat.le_refl _) (i := 0) (v := .bool b0) (hF ▸ stA_T hTne hgT 0 _)).set hold hTR (Nat.le_refl _) (i := 1) (v := .slice (some ⟨g, 0, none⟩) n1 cap) (hF ▸ stA_T hTne hgT 1 _)).set hold hTR (Nat.le_refl _) (i := 2) (v := .int .i64 x2) (hF ▸ stA_T hTne hgT 2 _)).set hold hTR (Nat.le_refl _) (i := 3) (v := .int .i64 x3) (hF ▸ stA_T hTne hgT 3 _)
        have hz := stA_zs (hF ▸ D8)
        obtain ⟨p8, hp8, h8⟩ := D8.rd
        have g8 := D8.grown
        clear D7 D8
        go_wp2_with fail
        exact bodyPost_ret (v := .agg #[.bool b0, .slice (some ⟨g, 0, none⟩) n1 cap, .int .i64 x2, .int .i64 x3]) (by simp [results, Try.results32, go_sem, e0, e1, e2, e3]) rfl ⟨b0, some ⟨g, 0, none⟩, g, n1, cap, _, x2, x3, p8, rfl, hn1, i2, i3, fun _ => ⟨rfl, hgN, hz.1⟩, fun j hj => hz.2 j (by omega), by omega, h8, g8⟩
end Go.Proofs.Ytiehokibfdaleaa
namespace Go.Proofs.Ytiehokibfdaleaa
open Go.RowKit

/-- One block more, of any number of cells: the one just made. -/
theorem HeldL.newL {w W : World} {L : List (Nat × List Value)} {vs : List Value} {t : TypeId} (h : HeldL w L W) : HeldL w ((W.heap.size, vs) :: L) (W.alloc (.cells vs.toArray t)) :=
  ⟨(h.alloc _).below, fun e he => by
    rcases List.mem_cons.1 he with rfl | he
    · refine ⟨h.below.size, by simp, fun i v hv => ?_⟩
      unfold World.cell?
      rw [heap_alloc_new]
      simpa using hv
    · exact (h.alloc _).cells e he, fun e he i => by
    rcases List.mem_cons.1 he with rfl | he
    · exact World.frozen?_alloc_new _ _ _ _
    · exact (h.alloc _).free e he i⟩
def K8 (w : World) (L : List (Nat × List Value)) (B : Nat) (x0 x1 x2 x3 x4 x5 x6 x7 : Value) (W : World) : Prop :=
  W.cell? ⟨B, 0, none⟩ = some x0 ∧ W.cell? ⟨B, 1, none⟩ = some x1 ∧ W.cell? ⟨B, 2, none⟩ = some x2 ∧ W.cell? ⟨B, 3, none⟩ = some x3 ∧ W.cell? ⟨B, 4, none⟩ = some x4 ∧ W.cell? ⟨B, 5, none⟩ = some x5 ∧ W.cell? ⟨B, 6, none⟩ = some x6 ∧ W.cell? ⟨B, 7, none⟩ = some x7 ∧ HeldL w L W
theorem K8.of {w : World} {L : List (Nat × List Value)} {B : Nat} {x0 x1 x2 x3 x4 x5 x6 x7 : Value} (hm : (B, [x0, x1, x2, x3, x4, x5, x6, x7]) ∈ L) {W : World} (h : HeldL w L W) : K8 w L B x0 x1 x2 x3 x4 x5 x6 x7 W :=
  ⟨h.cell hm (i := 0) rfl, h.cell hm (i := 1) rfl, h.cell hm (i := 2) rfl, h.cell hm (i := 3) rfl, h.cell hm (i := 4) rfl, h.cell hm (i := 5) rfl, h.cell hm (i := 6) rfl, h.cell hm (i := 7) rfl, h⟩
theorem K8.held {w : World} {L : List (Nat × List Value)} {B : Nat} {x0 x1 x2 x3 x4 x5 x6 x7 : Value} {W : World} (h : K8 w L B x0 x1 x2 x3 x4 x5 x6 x7 W) : HeldL w L W := h.2.2.2.2.2.2.2.2
def K16 (w : World) (L : List (Nat × List Value)) (B C : Nat) (x0 x1 x2 x3 x4 x5 x6 x7 y0 y1 y2 y3 y4 y5 y6 y7 : Value) (W : World) : Prop :=
  W.cell? ⟨B, 0, none⟩ = some x0 ∧ W.cell? ⟨B, 1, none⟩ = some x1 ∧ W.cell? ⟨B, 2, none⟩ = some x2 ∧ W.cell? ⟨B, 3, none⟩ = some x3 ∧ W.cell? ⟨B, 4, none⟩ = some x4 ∧ W.cell? ⟨B, 5, none⟩ = some x5 ∧ W.cell? ⟨B, 6, none⟩ = some x6 ∧ W.cell? ⟨B, 7, none⟩ = some x7 ∧ W.cell? ⟨C, 0, none⟩ = some y0 ∧ W.cell? ⟨C, 1, none⟩ = some y1 ∧ W.cell? ⟨C, 2, none⟩ = some y2 ∧ W.cell? ⟨C, 3, none⟩ = some y3 ∧ W.cell? ⟨C, 4, none⟩ = some y4 ∧ W.cell? ⟨C, 5, none⟩ = some y5 ∧ W.cell? ⟨C, 6, none⟩ = some y6 ∧ W.cell? ⟨C, 7, none⟩ = some y7 ∧ HeldL w L W
theorem K16.of {w : World} {L : List (Nat × List Value)} {B C : Nat} {x0 x1 x2 x3 x4 x5 x6 x7 y0 y1 y2 y3 y4 y5 y6 y7 : Value} (hm : (B, [x0, x1, x2, x3, x4, x5, x6, x7]) ∈ L ∧ (C, [y0, y1, y2, y3, y4, y5, y6, y7]) ∈ L) {W : World} (h : HeldL w L W) : K16 w L B C x0 x1 x2 x3 x4 x5 x6 x7 y0 y1 y2 y3 y4 y5 y6 y7 W :=
  ⟨h.cell hm.1 (i := 0) rfl, h.cell hm.1 (i := 1) rfl, h.cell hm.1 (i := 2) rfl, h.cell hm.1 (i := 3) rfl, h.cell hm.1 (i := 4) rfl, h.cell hm.1 (i := 5) rfl, h.cell hm.1 (i := 6) rfl, h.cell hm.1 (i := 7) rfl, h.cell hm.2 (i := 0) rfl, h.cell hm.2 (i := 1) rfl, h.cell hm.2 (i := 2) rfl, h.cell hm.2 (i := 3) rfl, h.cell hm.2 (i := 4) rfl, h.cell hm.2 (i := 5) rfl, h.cell hm.2 (i := 6) rfl, h.cell hm.2 (i := 7) rfl, h⟩
theorem K16.held {w : World} {L : List (Nat × List Value)} {B C : Nat} {x0 x1 x2 x3 x4 x5 x6 x7 y0 y1 y2 y3 y4 y5 y6 y7 : Value} {W : World} (h : K16 w L B C x0 x1 x2 x3 x4 x5 x6 x7 y0 y1 y2 y3 y4 y5 y6 y7 W) : HeldL w L W := h.2.2.2.2.2.2.2.2.2.2.2.2.2.2.2.2
end Go.Proofs.Ytiehokibfdaleaa
namespace Go.Proofs.Ytiehokibfdaleaa
open Go.ChangeShapes Go.WideShapes Go.ChangeAt Go.RowKit

/-- A procedure: its bounds, how many steps, and field j of step k. -/
structure Proc where
  lo : Int
  hi : Int
  n : Nat
  c : Nat → Nat → Int
/-- n steps lie at a, in block b from off on. -/
structure CodeAt (a : Option Addr) (b off n : Nat) (c : Nat → Nat → Int) (W : World) : Prop where
  at_ : 0 < n → a = some ⟨b, off, none⟩
  lt : 0 < n → b < W.heap.size
  cell : ∀ k j, k < n → j < 8 → W.cell? ⟨b, off + k * 8 + j, none⟩ = some (.int .i64 (c k j))
/-- Where procedure i's steps lie. -/
structure Spot where
  a : Option Addr
  b : Nat
  off : Nat
  cap : Nat
/-- m procedures lie at a, in block b from off on. -/
structure ProcsAt (a : Option Addr) (b off m : Nat) (P : Nat → Proc) (S : Nat → Spot) (W : World) : Prop where
  at_ : 0 < m → a = some ⟨b, off, none⟩
  lt : 0 < m → b < W.heap.size
  lo : ∀ i, i < m → W.cell? ⟨b, off + i * 3, none⟩ = some (.int .i64 (P i).lo)
  hi : ∀ i, i < m → W.cell? ⟨b, off + i * 3 + 1, none⟩ = some (.int .i64 (P i).hi)
  code : ∀ i, i < m → W.cell? ⟨b, off + i * 3 + 2, none⟩ = some (.slice (S i).a (P i).n (S i).cap)
  steps : ∀ i, i < m → CodeAt (S i).a (S i).b (S i).off (P i).n (P i).c W
theorem CodeAt.next {a : Option Addr} {b off n : Nat} {c : Nat → Nat → Int} {W W' : World} (h : CodeAt a b off n c W) (hb : Below W.heap.size W W') : CodeAt a b off n c W' :=
  ⟨h.at_, fun hn => Nat.lt_of_lt_of_le (h.lt hn) hb.size, fun k j hk hj => (hb.cell (p := ⟨b, off + k * 8 + j, none⟩) (h.lt (by omega))).trans (h.cell k j hk hj)⟩
theorem ProcsAt.next {a : Option Addr} {b off m : Nat} {P : Nat → Proc} {S : Nat → Spot} {W W' : World} (h : ProcsAt a b off m P S W) (hb : Below W.heap.size W W') : ProcsAt a b off m P S W' :=
  have k : ∀ o, 0 < m → W'.cell? ⟨b, o, none⟩ = W.cell? ⟨b, o, none⟩ := fun o hm => hb.cell (p := ⟨b, o, none⟩) (h.lt hm)
  ⟨h.at_, fun hm => Nat.lt_of_lt_of_le (h.lt hm) hb.size, fun i hi => (k _ (by omega)).trans (h.lo i hi), fun i hi => (k _ (by omega)).trans (h.hi i hi), fun i hi => (k _ (by omega)).trans (h.code i hi), fun i hi => (h.steps i hi).next hb⟩

/-- What the first procedures have in all. -/
def sizeTo (P : Nat → Proc) : Nat → Nat
  | 0 => 0
  | i + 1 => sizeTo P i + (P i).n
theorem sizeTo_le {P : Nat → Proc} {i m : Nat} (h : i < m) : (P i).n ≤ sizeTo P m := by
  induction m with
  | zero => omega
  | succ m ih =>
    rcases (show i < m ∨ i = m by omega) with h' | rfl
    · have := ih h'
      simp only [sizeTo]; omega
    · simp only [sizeTo]; omega
end Go.Proofs.Ytiehokibfdaleaa
namespace Go.Proofs.Ytiehokibfdaleaa
open Go.ChangeShapes Go.WideShapes Go.ChangeAt Go.RowKit

/-- A call: procedure, place, variables, cells. -/
structure Frm where
  proc : Int
  pc : Int
  nv : Nat
  v : Nat → Int
  nc : Nat
  c : Nat → Int
/-- Where a call's two lists lie. -/
structure FSpot where
  v : Spot
  c : Spot
/-- n ints lie at a, in block b from off on. -/
structure IntsAt (a : Option Addr) (b off n : Nat) (z : Nat → Int) (W : World) : Prop where
  at_ : 0 < n → a = some ⟨b, off, none⟩
  lt : 0 < n → b < W.heap.size
  cell : ∀ k, k < n → W.cell? ⟨b, off + k, none⟩ = some (.int .i64 (z k))
theorem IntsAt.next {a : Option Addr} {b off n : Nat} {z : Nat → Int} {W W' : World} (h : IntsAt a b off n z W) (hb : Below W.heap.size W W') : IntsAt a b off n z W' :=
  ⟨h.at_, fun hn => Nat.lt_of_lt_of_le (h.lt hn) hb.size, fun k hk => (hb.cell (p := ⟨b, off + k, none⟩) (h.lt (by omega))).trans (h.cell k hk)⟩
/-- m calls lie at a, in block b from off on. -/
structure FramesAt (a : Option Addr) (b off m : Nat) (F : Nat → Frm) (S : Nat → FSpot) (W : World) : Prop where
  at_ : 0 < m → a = some ⟨b, off, none⟩
  lt : 0 < m → b < W.heap.size
  proc : ∀ i, i < m → W.cell? ⟨b, off + i * 4, none⟩ = some (.int .i64 (F i).proc)
  pc : ∀ i, i < m → W.cell? ⟨b, off + i * 4 + 1, none⟩ = some (.int .i64 (F i).pc)
  vars : ∀ i, i < m → W.cell? ⟨b, off + i * 4 + 2, none⟩ = some (.slice (S i).v.a (F i).nv (S i).v.cap)
  cells : ∀ i, i < m → W.cell? ⟨b, off + i * 4 + 3, none⟩ = some (.slice (S i).c.a (F i).nc (S i).c.cap)
  vs : ∀ i, i < m → IntsAt (S i).v.a (S i).v.b (S i).v.off (F i).nv (F i).v W
  cs : ∀ i, i < m → IntsAt (S i).c.a (S i).c.b (S i).c.off (F i).nc (F i).c W
theorem FramesAt.next {a : Option Addr} {b off m : Nat} {F : Nat → Frm} {S : Nat → FSpot} {W W' : World} (h : FramesAt a b off m F S W) (hb : Below W.heap.size W W') : FramesAt a b off m F S W' :=
  have k : ∀ o, 0 < m → W'.cell? ⟨b, o, none⟩ = W.cell? ⟨b, o, none⟩ := fun o hm => hb.cell (p := ⟨b, o, none⟩) (h.lt hm)
  ⟨h.at_, fun hm => Nat.lt_of_lt_of_le (h.lt hm) hb.size, fun i hi => (k _ (by omega)).trans (h.proc i hi), fun i hi => (k _ (by omega)).trans (h.pc i hi), fun i hi => (k _ (by omega)).trans (h.vars i hi), fun i hi => (k _ (by omega)).trans (h.cells i hi), fun i hi => (h.vs i hi).next hb, fun i hi => (h.cs i hi).next hb⟩
/-- A cell of a held block turned. -/
theorem HeldL.putI {w W : World} {L : List (Nat × List Value)} {B i : Nat} {vs : List Value} {x : Value} (hB : w.heap.size ≤ B) (hne : ∀ e ∈ L, e.1 ≠ B) (h : HeldL w ((B, vs) :: L) W) (hi : i < vs.length) : HeldL w ((B, vs.set i x) :: L) (W.setCell ⟨B, i, none⟩ x) := by
  have m := List.mem_cons_self (a := (B, vs)) (l := L)
  have hh := (h.sub (L' := L) (fun e he => List.mem_cons_of_mem _ he)).setCell ⟨B, i, none⟩ x hB hne
  refine ⟨hh.below, fun e he => ?_, fun e he j => ?_⟩
  · rcases List.mem_cons.1 he with rfl | he
    · refine ⟨hB, by simpa [World.setCell] using h.size m, fun j v hv => ?_⟩
      by_cases hj : i = j
      · subst hj
        rw [List.getElem?_set_self hi] at hv
        injection hv with hv
        subst hv
        exact World.cell?_setCell_same _ _ _ (h.cell m (List.getElem?_eq_getElem hi))
      · rw [List.getElem?_set_ne hj] at hv
        rw [World.cell?_setCell_other _ _ _ _ (by intro e; injection e with _ e; exact hj (by first | exact e | exact e.symm))]
        exact h.cell m hv
    · exact hh.cells e he
  · rcases List.mem_cons.1 he with rfl | he
    · rw [World.frozen?_setCell]; exact h.free _ m j
    · exact hh.free e he j
/-- What the first calls have in all. -/
def frmTo (F : Nat → Frm) : Nat → Nat
  | 0 => 0
  | i + 1 => frmTo F i + ((F i).nv + (F i).nc)
theorem frmTo_le {F : Nat → Frm} {i m : Nat} (h : i < m) : (F i).nv ≤ frmTo F m ∧ (F i).nc ≤ frmTo F m := by
  induction m with
  | zero => omega
  | succ m ih =>
    rcases (show i < m ∨ i = m by omega) with h' | rfl
    · have := ih h'
      simp only [frmTo]; omega
    · simp only [frmTo]; omega
end Go.Proofs.Ytiehokibfdaleaa
namespace Go.Proofs.Ytiehokibfdaleaa
def inB (n x y : Int) : Bool := decide (x ≤ n) && decide (n ≤ y)
/-- What a step of that kind does not have is 0. -/
def formB (o d a b r l h t : Int) : Bool :=
  if o = 1 then r == 0 && l == 0 && h == 0 && t == 0
  else if o = 2 then r == 0 && l == 0 && h == 0 && t == 0
  else if o = 3 then r == 0 && l == 0 && h == 0 && t == 0
  else if o = 4 then r == 0 && l == 0 && h == 0 && t == 0
  else if o = 5 then a == 0 && b == 0 && r == 0 && t == 0
  else if o = 6 then b == 0 && r == 0 && l == 0 && h == 0 && t == 0
  else if o = 7 then d == 0 && r == 0 && l == 0 && h == 0 && t == 0
  else if o = 8 then d == 0 && l == 0 && h == 0
  else if o = 9 then d == 0 && a == 0 && b == 0 && r == 0 && l == 0 && h == 0
  else if o = 10 then b == 0 && r == 0 && l == 0 && h == 0
  else if o = 11 then d == 0 && l == 0 && h == 0 && t == 0
  else if o = 12 then d == 0 && b == 0 && r == 0 && l == 0 && h == 0 && t == 0
  else false
/-- What a step of that kind has is as it must be. -/
def hasB (o r l h t p s : Int) : Bool :=
  if o = 5 then okB l && okB h && decide (l ≤ h)
  else if o = 8 then inB r 1 4 && decide (0 ≤ t) && decide (t < s)
  else if o = 9 then decide (0 ≤ t) && decide (t < s)
  else if o = 10 then decide (0 ≤ t) && decide (t < p)
  else if o = 11 then inB r 1 4
  else true
theorem form_out {o d a b r l h t : Int} (ho : inB o 1 12 = false) : formB o d a b r l h t = false := by
  have n : ∀ k : Int, 1 ≤ k → k ≤ 12 → ¬ o = k := fun k h1 h2 e => by subst e; simp [inB, h1, h2] at ho
  simp [formB, n]
def insOk (o d a b r l h t p s : Int) : Bool := formB o d a b r l h t && (inB d 0 3 && inB a 0 3 && inB b 0 3) && hasB o r l h t p s
end Go.Proofs.Ytiehokibfdaleaa
namespace Go.Proofs.Ytiehokibfdaleaa
open Go.ChangeShapes Go.WideShapes Go.ChangeAt Go.RowKit

theorem inS (n x y : Int) (w : World) :
    Calls Try.prog 53 #[.int .i64 n, .int .i64 x, .int .i64 y] w fun e w' => e = .returned (.bool (inB n x y)) ∧ w' = w := by
  by_cases h1 : x ≤ n
  · go_enter Try.func53, Try.ntmps53
    go_wp2
    all_goals go_ret
    all_goals exact ⟨ret_bool (by simp [inB, h1]), rfl⟩
  · go_enter Try.func53, Try.ntmps53
    go_wp2
    all_goals go_ret
    all_goals exact ⟨ret_bool (by simp [inB]; omega), rfl⟩

end Go.Proofs.Ytiehokibfdaleaa
namespace Go.Proofs.Ytiehokibfdaleaa
open Go.ChangeShapes Go.WideShapes Go.ChangeAt Go.RowKit

theorem make_rows {P : Program} (t e : TypeId) (z : Value) (sz bytes : Nat) (ht : P.underlying t = some (.slice e)) (hinfo : (P.info? e).map (fun i => (i.zero, i.size, i.bytes)) = some (some z, sz, bytes)) (n : Nat) (hb : bytes * n ≤ 281474976710656) (h63 : n ≤ 9223372036854775807) (w : World) :
    (Instr.makeSlice t (.int .i64 (n : Int)) (.int .i64 (n : Int))).run P w = .ok (.slice (some ⟨w.heap.size, 0, none⟩) n n) (w.alloc (.cells (madeCells z.cells (n * sz)) e)) := by
  obtain ⟨i, hi, hzz⟩ := Option.map_eq_some_iff.1 hinfo
  simp only [Prod.mk.injEq] at hzz
  obtain ⟨hz, hs, hb'⟩ := hzz
  have hb2 : (i.bytes : Int) * (n : Int) ≤ 281474976710656 := by
    rw [hb']
    have h : ((bytes * n : Nat) : Int) ≤ 281474976710656 := by omega
    rwa [Int.natCast_mul] at h
  have hr := run_make (P := P) w t e i z ht hi hz .i64 .i64 n n (by omega) (Int.le_refl _) hb2 (by omega)
  simp only [Int.toNat_natCast, hs] at hr
  exact hr
theorem made_cell (w : World) (z : Array Value) (k : Nat) (e : TypeId) (i : Nat) (h : i < k) : (w.alloc (.cells (madeCells z k) e)).cell? ⟨w.heap.size, i, none⟩ = some (z[i % z.size]!) := by
  unfold World.cell?
  rw [heap_alloc_new]
  simp [madeCells, h]

/-- Cells written one behind the other, from o on. -/
def setAll (g : Nat) : Nat → List Value → World → World
  | _, [], W => W
  | o, v :: vs, W => setAll g (o + 1) vs (W.setCell ⟨g, o, none⟩ v)
theorem setAll_below {B g : Nat} {w : World} (hg : B ≤ g) : ∀ (vs : List Value) (o : Nat) (W : World), Below B w W → Below B w (setAll g o vs W)
  | [], _, _, h => h
  | v :: vs, o, _, h => setAll_below hg vs (o + 1) _ (h.setCell hg v)
theorem setAll_frozen {g : Nat} (p : Addr) : ∀ (vs : List Value) (o : Nat) (W : World), (setAll g o vs W).frozen? p = W.frozen? p
  | [], _, _ => rfl
  | v :: vs, o, W => by rw [setAll, setAll_frozen p vs, World.frozen?_setCell]
theorem setAll_other {g : Nat} (p : Addr) : ∀ (vs : List Value) (o : Nat) (W : World), (∀ j, j < vs.length → p ≠ ⟨g, o + j, none⟩) → (setAll g o vs W).cell? p = W.cell? p
  | [], _, _, _ => rfl
  | v :: vs, o, W, h => by
    rw [setAll, setAll_other p vs (o + 1) _ (fun j hj => by
      have := h (j + 1) (by simp; omega)
      rwa [show o + 1 + j = o + (j + 1) by omega])]
    exact World.cell?_setCell_other _ _ _ _ (by have := h 0 (by simp); first | simpa using this | (intro x; exact this (by simpa using x.symm)))
theorem setAll_at {g : Nat} : ∀ (vs : List Value) (o : Nat) (W : World) (i : Nat) (v : Value), (∀ j, j < vs.length → (W.cell? ⟨g, o + j, none⟩).isSome = true) → vs[i]? = some v → (setAll g o vs W).cell? ⟨g, o + i, none⟩ = some v
  | [], _, _, _, _, _, h => by simp at h
  | u :: vs, o, W, 0, v, hs, h => by
    simp at h
    subst h
    rw [setAll, setAll_other _ vs (o + 1) _ (fun j _ => by simp <;> omega)]
    obtain ⟨x, hx⟩ := Option.isSome_iff_exists.1 (hs 0 (by simp))
    exact World.cell?_setCell_same _ _ _ hx
  | u :: vs, o, W, i + 1, v, hs, h => by
    rw [setAll, show o + (i + 1) = o + 1 + i by omega]
    refine setAll_at vs (o + 1) _ i v (fun j hj => ?_) (by simpa using h)
    rw [World.cell?_setCell_other _ _ _ _ (by simp <;> omega), show o + 1 + j = o + (j + 1) by omega]
    exact hs (j + 1) (by simp; omega)

theorem CodeAt.set {a : Option Addr} {b off n : Nat} {c : Nat → Nat → Int} {W : World} {G o : Nat} {vs : List Value} (h : CodeAt a b off n c W) (hne : b ≠ G) : CodeAt a b off n c (setAll G o vs W) :=
  ⟨h.at_, fun hn => Nat.lt_of_lt_of_le (h.lt hn) (setAll_below (B := 0) (w := W) (Nat.zero_le _) vs o W (Below.refl _ _)).size, fun k j hk hj => by
    rw [setAll_other _ _ _ _ (fun j' _ e => hne (by injection e))]
    exact h.cell k j hk hj⟩

theorem own3 {W : World} {B : Nat} {u v x : Value} (k0 : W.cell? ⟨B, 0, none⟩ = some u) (k1 : W.cell? ⟨B, 1, none⟩ = some v) (k2 : W.cell? ⟨B, 2, none⟩ = some x) : (∀ p, (W.setCell ⟨B, 0, none⟩ p).cell? ⟨B, 0, none⟩ = some p) ∧ (∀ p q, ((W.setCell ⟨B, 0, none⟩ p).setCell ⟨B, 1, none⟩ q).cell? ⟨B, 1, none⟩ = some q) ∧ (∀ p q r, (((W.setCell ⟨B, 0, none⟩ p).setCell ⟨B, 1, none⟩ q).setCell ⟨B, 2, none⟩ r).cell? ⟨B, 2, none⟩ = some r) :=
  ⟨fun _ => World.cell?_setCell_same _ _ _ k0, fun _ _ => World.cell?_setCell_same _ _ _ (u := v) (by rw [World.cell?_setCell_other _ _ _ _ (by simp)]; exact k1), fun _ _ _ => World.cell?_setCell_same _ _ _ (u := x) (by rw [World.cell?_setCell_other _ _ _ _ (by simp), World.cell?_setCell_other _ _ _ _ (by simp)]; exact k2)⟩
end Go.Proofs.Ytiehokibfdaleaa
namespace Go.Proofs.Ytiehokibfdaleaa
open Go.ChangeShapes Go.WideShapes Go.ChangeAt Go.RowKit

theorem IntsAt.set {a : Option Addr} {b off n : Nat} {z : Nat → Int} {W : World} {G o : Nat} {vs : List Value} (h : IntsAt a b off n z W) (hne : b ≠ G) : IntsAt a b off n z (setAll G o vs W) :=
  ⟨h.at_, fun hn => Nat.lt_of_lt_of_le (h.lt hn) (setAll_below (B := 0) (w := W) (Nat.zero_le _) vs o W (Below.refl _ _)).size, fun k hk => by
    rw [setAll_other _ _ _ _ (fun j' _ e => hne (by injection e))]
    exact h.cell k hk⟩
theorem own4c {W : World} {B : Nat} {u0 u1 u2 u3 : Value} (k0 : W.cell? ⟨B, 0, none⟩ = some u0) (k1 : W.cell? ⟨B, 1, none⟩ = some u1) (k2 : W.cell? ⟨B, 2, none⟩ = some u2) (k3 : W.cell? ⟨B, 3, none⟩ = some u3) :
    (∀ x0, (W.setCell ⟨B, 0, none⟩ x0).cell? ⟨B, 0, none⟩ = some x0) ∧ (∀ x0 x1, ((W.setCell ⟨B, 0, none⟩ x0).setCell ⟨B, 1, none⟩ x1).cell? ⟨B, 1, none⟩ = some x1) ∧ (∀ x0 x1 x2, (((W.setCell ⟨B, 0, none⟩ x0).setCell ⟨B, 1, none⟩ x1).setCell ⟨B, 2, none⟩ x2).cell? ⟨B, 2, none⟩ = some x2) ∧ (∀ x0 x1 x2 x3, ((((W.setCell ⟨B, 0, none⟩ x0).setCell ⟨B, 1, none⟩ x1).setCell ⟨B, 2, none⟩ x2).setCell ⟨B, 3, none⟩ x3).cell? ⟨B, 3, none⟩ = some x3) := by
  refine ⟨?_, ?_, ?_, ?_⟩
  · intro x0
    refine World.cell?_setCell_same _ _ _ (u := u0) ?_
    exact k0
  · intro x0 x1
    refine World.cell?_setCell_same _ _ _ (u := u1) ?_
    rw [World.cell?_setCell_other _ _ _ _ (by simp)]
    exact k1
  · intro x0 x1 x2
    refine World.cell?_setCell_same _ _ _ (u := u2) ?_
    rw [World.cell?_setCell_other _ _ _ _ (by simp), World.cell?_setCell_other _ _ _ _ (by simp)]
    exact k2
  · intro x0 x1 x2 x3
    refine World.cell?_setCell_same _ _ _ (u := u3) ?_
    rw [World.cell?_setCell_other _ _ _ _ (by simp), World.cell?_setCell_other _ _ _ _ (by simp), World.cell?_setCell_other _ _ _ _ (by simp)]
    exact k3
theorem own5c {W : World} {B : Nat} {u0 u1 u2 u3 u4 : Value} (k0 : W.cell? ⟨B, 0, none⟩ = some u0) (k1 : W.cell? ⟨B, 1, none⟩ = some u1) (k2 : W.cell? ⟨B, 2, none⟩ = some u2) (k3 : W.cell? ⟨B, 3, none⟩ = some u3) (k4 : W.cell? ⟨B, 4, none⟩ = some u4) :
    (∀ x0, (W.setCell ⟨B, 0, none⟩ x0).cell? ⟨B, 0, none⟩ = some x0) ∧ (∀ x0 x1, ((W.setCell ⟨B, 0, none⟩ x0).setCell ⟨B, 1, none⟩ x1).cell? ⟨B, 1, none⟩ = some x1) ∧ (∀ x0 x1 x2, (((W.setCell ⟨B, 0, none⟩ x0).setCell ⟨B, 1, none⟩ x1).setCell ⟨B, 2, none⟩ x2).cell? ⟨B, 2, none⟩ = some x2) ∧ (∀ x0 x1 x2 x3, ((((W.setCell ⟨B, 0, none⟩ x0).setCell ⟨B, 1, none⟩ x1).setCell ⟨B, 2, none⟩ x2).setCell ⟨B, 3, none⟩ x3).cell? ⟨B, 3, none⟩ = some x3) ∧ (∀ x0 x1 x2 x3 x4, (((((W.setCell ⟨B, 0, none⟩ x0).setCell ⟨B, 1, none⟩ x1).setCell ⟨B, 2, none⟩ x2).setCell ⟨B, 3, none⟩ x3).setCell ⟨B, 4, none⟩ x4).cell? ⟨B, 4, none⟩ = some x4) := by
  refine ⟨?_, ?_, ?_, ?_, ?_⟩
  · intro x0
    refine World.cell?_setCell_same _ _ _ (u := u0) ?_
    exact k0
  · intro x0 x1
    refine World.cell?_setCell_same _ _ _ (u := u1) ?_
    rw [World.cell?_setCell_other _ _ _ _ (by simp)]
    exact k1
  · intro x0 x1 x2
    refine World.cell?_setCell_same _ _ _ (u := u2) ?_
    rw [World.cell?_setCell_other _ _ _ _ (by simp), World.cell?_setCell_other _ _ _ _ (by simp)]
    exact k2
  · intro x0 x1 x2 x3
    refine World.cell?_setCell_same _ _ _ (u := u3) ?_
    rw [World.cell?_setCell_other _ _ _ _ (by simp), World.cell?_setCell_other _ _ _ _ (by simp), World.cell?_setCell_other _ _ _ _ (by simp)]
    exact k3
  · intro x0 x1 x2 x3 x4
    refine World.cell?_setCell_same _ _ _ (u := u4) ?_
    rw [World.cell?_setCell_other _ _ _ _ (by simp), World.cell?_setCell_other _ _ _ _ (by simp), World.cell?_setCell_other _ _ _ _ (by simp), World.cell?_setCell_other _ _ _ _ (by simp)]
    exact k4
end Go.Proofs.Ytiehokibfdaleaa
namespace Go.Proofs.Ytiehokibfdaleaa
open Go.ChangeShapes Go.WideShapes Go.ChangeAt Go.RowKit

/-- n bounds lie at a, in block b from off on. -/
structure BndsAt (a : Option Addr) (b off n : Nat) (lo hi : Nat → Int) (W : World) : Prop where
  at_ : 0 < n → a = some ⟨b, off, none⟩
  lt : 0 < n → b < W.heap.size
  lo : ∀ k, k < n → W.cell? ⟨b, off + k * 2, none⟩ = some (.int .i64 (lo k))
  hi : ∀ k, k < n → W.cell? ⟨b, off + k * 2 + 1, none⟩ = some (.int .i64 (hi k))
theorem BndsAt.next {a : Option Addr} {b off n : Nat} {lo hi : Nat → Int} {W W' : World} (h : BndsAt a b off n lo hi W) (hb : Below W.heap.size W W') : BndsAt a b off n lo hi W' :=
  ⟨h.at_, fun hn => Nat.lt_of_lt_of_le (h.lt hn) hb.size, fun k hk => (hb.cell (p := ⟨b, off + k * 2, none⟩) (h.lt (by omega))).trans (h.lo k hk), fun k hk => (hb.cell (p := ⟨b, off + k * 2 + 1, none⟩) (h.lt (by omega))).trans (h.hi k hk)⟩
theorem BndsAt.set {a : Option Addr} {b off n : Nat} {lo hi : Nat → Int} {W : World} {G o : Nat} {vs : List Value} (h : BndsAt a b off n lo hi W) (hne : b ≠ G) : BndsAt a b off n lo hi (setAll G o vs W) :=
  have k : ∀ q, (setAll G o vs W).cell? ⟨b, q, none⟩ = W.cell? ⟨b, q, none⟩ := fun q => setAll_other _ _ _ _ (fun j' _ e => hne (by injection e))
  ⟨h.at_, fun hn => Nat.lt_of_lt_of_le (h.lt hn) (setAll_below (B := 0) (w := W) (Nat.zero_le _) vs o W (Below.refl _ _)).size, fun i hi => (k _).trans (h.lo i hi), fun i hi => (k _).trans (h.hi i hi)⟩
/-- A state: whether something comes there, bounds of its variables, and of its cells. -/
structure St where
  on : Bool
  n : Nat
  lo : Nat → Int
  hi : Nat → Int
  c : Int
  d : Int
/-- The state's own value, its list at a. -/
def stV (s : St) (a : Option Addr) (cap : Nat) : Value := .agg #[.bool s.on, .slice a s.n cap, .int .i64 s.c, .int .i64 s.d]
def StAt (a : Option Addr) (b off : Nat) (s : St) (W : World) : Prop := BndsAt a b off s.n s.lo s.hi W

end Go.Proofs.Ytiehokibfdaleaa
namespace Go.Proofs.Ytiehokibfdaleaa

/-- The first k bounds are ok. -/
def allOk (lo hi : Nat → Int) : Nat → Bool
  | 0 => true
  | k + 1 => allOk lo hi k && itvOk (lo k) (hi k)
theorem allOk_false {lo hi : Nat → Int} {k n : Nat} (h : k < n) (hk : itvOk (lo k) (hi k) = false) : allOk lo hi n = false := by
  induction n with
  | zero => omega
  | succ n ih =>
    rcases (show k < n ∨ k = n by omega) with h' | rfl
    · simp [allOk, ih h']
    · simp [allOk, hk]
theorem allOk_at {lo hi : Nat → Int} {k n : Nat} (h : k < n) (ha : allOk lo hi n = true) : itvOk (lo k) (hi k) = true := by
  cases hk : itvOk (lo k) (hi k)
  · rw [allOk_false h hk] at ha; cases ha
  · rfl
def absOk (on : Bool) (n : Nat) (lo hi : Nat → Int) (c d : Int) : Bool :=
  match on with
  | false => decide (n = 0) && (decide (c = 0) && decide (d = 0))
  | true => decide (n = 4) && (itvOk c d && allOk lo hi n)
/-- The first k numbers are in the first k bounds. -/
def hasTo (lo hi z : Nat → Int) : Nat → Bool
  | 0 => true
  | k + 1 => hasTo lo hi z k && itvHas (lo k) (hi k) (z k)
theorem hasTo_false {lo hi z : Nat → Int} {k n : Nat} (h : k < n) (hk : itvHas (lo k) (hi k) (z k) = false) : hasTo lo hi z n = false := by
  induction n with
  | zero => omega
  | succ n ih =>
    rcases (show k < n ∨ k = n by omega) with h' | rfl
    · simp [hasTo, ih h']
    · simp [hasTo, hk]
/-- The first k bounds are within the first k others. -/
def inTo (lo hi lo' hi' : Nat → Int) : Nat → Bool
  | 0 => true
  | k + 1 => inTo lo hi lo' hi' k && itvIn (lo k) (hi k) (lo' k) (hi' k)
theorem inTo_false {lo hi lo' hi' : Nat → Int} {k n : Nat} (h : k < n) (hk : itvIn (lo k) (hi k) (lo' k) (hi' k) = false) : inTo lo hi lo' hi' n = false := by
  induction n with
  | zero => omega
  | succ n ih =>
    rcases (show k < n ∨ k = n by omega) with h' | rfl
    · simp [inTo, ih h']
    · simp [inTo, hk]
end Go.Proofs.Ytiehokibfdaleaa
