/- What the drawing of a reckoning and two bounds answers; what the laws' owNorm and owPick answer. -/
import Derived.Test.YtceanngbcolbaaaDrawList
import Derived.Test.YtceanngbcolbaaaHeld
import Derived.Test.YtceanngbcolbaaaPlainItv
namespace Go.Proofs.Ytceanngbcolbaaa
open Go.ChangeShapes Go.WideShapes Go.ChangeAt Go.RowKit

theorem tm_mod {n : Int} (h : ¬ n.tmod 65536 < 0) : n.tmod 65536 = n % 65536 := by
  by_cases k : 0 ≤ n
  · exact tm_pos n k
  · have e := tm_neg n (by omega)
    omega
theorem tm_mod' {n : Int} (h : n.tmod 65536 < 0) : n.tmod 65536 + 65536 = n % 65536 := by
  by_cases k : 0 ≤ n
  · have e := tm_pos n k
    omega
  · have e := tm_neg n (by omega)
    omega
theorem owNorm_is (n r : Int) (w : World) (h : n % 65536 = r) :
    Calls Try.prog 43 #[.int .i64 n] w fun e w' => e = .returned (.int .i64 r) ∧ Below w.heap.size w w' := by
  have hl : n.tmod 65536 < 65536 := Int.tmod_lt_of_pos _ (by omega)
  have hg : -65536 < n.tmod 65536 := by
    by_cases h : 0 ≤ n
    · rw [tm_pos n h]; omega
    · rw [tm_neg n (by omega)]; omega
  have hS : Hid (n % 65536 = r) := h
  clear h
  by_cases hc : n.tmod 65536 < 0
  · go_enter Try.func43, Try.ntmps43
    go_wp2
    go_ret
    exact ⟨ret_int ((tm_mod' hc).trans hS.out), Below.refl _ _⟩
  · have hcS : Hid (¬ n.tmod 65536 < 0) := hc
    go_enter Try.func43, Try.ntmps43
    go_wp2
    go_ret
    exact ⟨ret_int ((tm_mod (by have := hcS.out; omega)).trans hS.out), Below.refl _ _⟩
/-- What owPick picks of bounds. -/
def pk (lo hi n : Int) : Int := lo + n % 65536 % (hi - lo + 1)
theorem pk_in {lo hi n : Int} (h : lo ≤ hi) : lo ≤ pk lo hi n ∧ pk lo hi n ≤ hi := by
  unfold pk
  have h1 := Int.emod_nonneg (n % 65536) (show hi - lo + 1 ≠ 0 by omega)
  have h2 := Int.emod_lt_of_pos (n % 65536) (show 0 < hi - lo + 1 by omega)
  omega
set_option maxRecDepth 10000 in
set_option maxHeartbeats 8000000 in
theorem owPick_is (lo hi n r : Int) (w : World) (hok : itvOk lo hi = true) (h : pk lo hi n = r) :
    Calls Try.prog 13 #[.agg #[.int .i64 lo, .int .i64 hi], .int .i64 n] w fun e w' => e = .returned (.int .i64 r) ∧ Below w.heap.size w w' := by
  obtain ⟨o1, o2, o3⟩ := itvOk_of hok
  have k1 := ok_lo o1
  have k2 := ok_hi o1
  have k3 := ok_lo o2
  have k4 := ok_hi o2
  obtain ⟨nr, hnr0⟩ : ∃ nr, n % 65536 = nr := ⟨_, rfl⟩
  have n1 : 0 ≤ nr ∧ nr < 65536 := by omega
  obtain ⟨n1, n2⟩ := n1
  have hnr : Hid (n % 65536 = nr) := hnr0
  obtain ⟨q, hq0⟩ : ∃ q, nr % (hi - lo + 1) = q := ⟨_, rfl⟩
  have hr : Hid (lo + q = r) := by rw [← hq0, ← hnr0]; exact h
  have d0 : ¬ (hi - lo + 1 = 0) := by omega
  have d2 := Int.emod_nonneg nr d0
  have d3 := Int.emod_lt_of_pos nr (show 0 < hi - lo + 1 by omega)
  have hq : Hid (nr % (hi - lo + 1) = q) := hq0
  have hq2 : Hid (nr.tmod (hi - lo + 1) = q) := (Int.tmod_eq_emod_of_nonneg n1).trans hq0
  rw [hq0] at d2 d3
  clear hq0 hnr0 h hok o1 o2
  have H1 : HeldL w [(w.heap.size, [Value.int .i64 lo, .int .i64 hi])] (w.alloc (.cells #[.int .i64 lo, .int .i64 hi] 24)) := HeldL.new (HeldL.nil w)
  obtain ⟨Lb, hLb⟩ : ∃ Lb, Lb = [(w.heap.size, [Value.int .i64 lo, .int .i64 hi])] := ⟨_, rfl⟩
  have mA : (w.heap.size, [Value.int .i64 lo, .int .i64 hi]) ∈ Lb := by rw [hLb]; simp
  rw [← hLb] at H1
  have hS0 := H1.drew
  clear H1 hLb
  go_enter Try.func13, Try.ntmps13
  go_wp2_with fail
  refine region_inv3 [(0, 5), (1, 6), (2, 7), (3, 8), (4, 9), (5, 10), (6, 11), (7, 12), (8, 13), (9, 14), (10, 15), (11, 16), (12, 4)]
    (fun j vx _ => match j with
      | 0 => Is (.pointer (some ⟨w.heap.size, 0, none⟩)) vx
      | 1 => Is (.int .i64 (lo)) vx
      | 2 => Is (.int .i64 (n)) vx
      | 3 => Is (.int .i64 (nr)) vx
      | 4 => Is (.pointer (some ⟨w.heap.size, 1, none⟩)) vx
      | 5 => Is (.int .i64 (hi)) vx
      | 6 => Is (.pointer (some ⟨w.heap.size, 0, none⟩)) vx
      | 7 => Is (.int .i64 (lo)) vx
      | 8 => Is (.int .i64 (hi - lo)) vx
      | 9 => Is (.int .i64 (hi - lo + 1)) vx
      | 10 => Is (.int .i64 (q)) vx
      | 11 => Is (.int .i64 (lo + q)) vx
      | 12 => Is (.int .i64 (lo + q)) vx
      | _ => True)
    (fun _ W => HeldL w Lb W) TT
    (by kernel_rfl) (by kernel_rfl) (by kernel_rfl) (by kernel_rfl) (by kernel_rfl) rfl hS0 (fun i j v W W' _ h _ => h) ?_ ?_
  · intro i L vals W hi' hφ hS hL hd
    have hi2 : i < 13 := hi'
    clear hi'
    rcases (show i = 0 ∨ i = 1 ∨ i = 2 ∨ i = 3 ∨ i = 4 ∨ i = 5 ∨ i = 6 ∨ i = 7 ∨ i = 8 ∨ i = 9 ∨ i = 10 ∨ i = 11 ∨ i = 12 by omega) with rfl | rfl | rfl | rfl | rfl | rfl | rfl | rfl | rfl | rfl | rfl | rfl | rfl
    · refine wpAt_of rfl rfl ?_
      simp only [frOf, Act.put]
      go_wp2_with fail
      first | exact ⟨trivial, rfl, trivial, hS⟩ | exact ⟨rfl, trivial, hS⟩
    · have k0 : vals 0 = .pointer (some ⟨w.heap.size, 0, none⟩) := hφ 0 (hd 0 (by decide))
      have c0 : W.cell? ⟨w.heap.size, 0, none⟩ = some (.int .i64 lo) := HeldL.cell hS mA (i := 0) rfl
      refine wpAt_of rfl rfl ?_
      simp only [frOf, Act.put]
      go_wp2_with fail
      first | exact ⟨trivial, rfl, trivial, hS⟩ | exact ⟨rfl, trivial, hS⟩
    · refine wpAt_of rfl rfl ?_
      simp only [frOf, Act.put]
      go_wp2_with fail
      first | exact ⟨trivial, rfl, trivial, hS⟩ | exact ⟨rfl, trivial, hS⟩
    · have k2 : vals 2 = .int .i64 (n) := hφ 2 (hd 2 (by decide))
      refine wpAt_of rfl rfl ?_
      simp only [frOf, Act.put]
      go_wp2_with fail
      refine (owNorm_is _ nr _ hnr.out).mono ?_
      rintro e W' ⟨rfl, hb⟩
      go_wp2_with fail
      first | exact ⟨trivial, rfl, trivial, HeldL.next hb hS⟩ | exact ⟨rfl, trivial, HeldL.next hb hS⟩
    · refine wpAt_of rfl rfl ?_
      simp only [frOf, Act.put]
      go_wp2_with fail
      first | exact ⟨trivial, rfl, trivial, hS⟩ | exact ⟨rfl, trivial, hS⟩
    · have k4 : vals 4 = .pointer (some ⟨w.heap.size, 1, none⟩) := hφ 4 (hd 4 (by decide))
      have c1 : W.cell? ⟨w.heap.size, 1, none⟩ = some (.int .i64 hi) := HeldL.cell hS mA (i := 1) rfl
      refine wpAt_of rfl rfl ?_
      simp only [frOf, Act.put]
      go_wp2_with fail
      first | exact ⟨trivial, rfl, trivial, hS⟩ | exact ⟨rfl, trivial, hS⟩
    · refine wpAt_of rfl rfl ?_
      simp only [frOf, Act.put]
      go_wp2_with fail
      first | exact ⟨trivial, rfl, trivial, hS⟩ | exact ⟨rfl, trivial, hS⟩
    · have k6 : vals 6 = .pointer (some ⟨w.heap.size, 0, none⟩) := hφ 6 (hd 6 (by decide))
      have c0 : W.cell? ⟨w.heap.size, 0, none⟩ = some (.int .i64 lo) := HeldL.cell hS mA (i := 0) rfl
      refine wpAt_of rfl rfl ?_
      simp only [frOf, Act.put]
      go_wp2_with fail
      first | exact ⟨trivial, rfl, trivial, hS⟩ | exact ⟨rfl, trivial, hS⟩
    · have k5 : vals 5 = .int .i64 (hi) := hφ 5 (hd 5 (by decide))
      have k7 : vals 7 = .int .i64 (lo) := hφ 7 (hd 7 (by decide))
      refine wpAt_of rfl rfl ?_
      simp only [frOf, Act.put]
      go_wp2_with fail
      first | exact ⟨trivial, rfl, trivial, hS⟩ | exact ⟨rfl, trivial, hS⟩
    · have k8 : vals 8 = .int .i64 (hi - lo) := hφ 8 (hd 8 (by decide))
      refine wpAt_of rfl rfl ?_
      simp only [frOf, Act.put]
      go_wp2_with fail
      first | exact ⟨trivial, rfl, trivial, hS⟩ | exact ⟨rfl, trivial, hS⟩
    · have k3 : vals 3 = .int .i64 (nr) := hφ 3 (hd 3 (by decide))
      have k9 : vals 9 = .int .i64 (hi - lo + 1) := hφ 9 (hd 9 (by decide))
      refine wpAt_of rfl rfl ?_
      simp only [frOf, Act.put]
      go_wp2_with fail
      first | exact ⟨trivial, congrArg (Value.int .i64) hq.out, trivial, hS⟩ | exact ⟨trivial, congrArg (Value.int .i64) hq2.out, trivial, hS⟩ | exact ⟨congrArg (Value.int .i64) hq.out, trivial, hS⟩ | exact ⟨congrArg (Value.int .i64) hq2.out, trivial, hS⟩
    · have k1 : vals 1 = .int .i64 (lo) := hφ 1 (hd 1 (by decide))
      have k10 : vals 10 = .int .i64 (q) := hφ 10 (hd 10 (by decide))
      refine wpAt_of rfl rfl ?_
      simp only [frOf, Act.put]
      go_wp2_with fail
      first | exact ⟨trivial, rfl, trivial, hS⟩ | exact ⟨rfl, trivial, hS⟩
    · have k11 : vals 11 = .int .i64 (lo + q) := hφ 11 (hd 11 (by decide))
      refine wpAt_of rfl rfl ?_
      simp only [frOf, Act.put]
      go_wp2_with fail
      first | exact ⟨trivial, rfl, trivial, hS⟩ | exact ⟨rfl, trivial, hS⟩
  · intro L vals W hall hφ hS
    have k0 : vals 0 = .pointer (some ⟨w.heap.size, 0, none⟩) := hφ 0 (by decide)
    have k1 : vals 1 = .int .i64 (lo) := hφ 1 (by decide)
    have k2 : vals 2 = .int .i64 (n) := hφ 2 (by decide)
    have k3 : vals 3 = .int .i64 (nr) := hφ 3 (by decide)
    have k4 : vals 4 = .pointer (some ⟨w.heap.size, 1, none⟩) := hφ 4 (by decide)
    have k5 : vals 5 = .int .i64 (hi) := hφ 5 (by decide)
    have k6 : vals 6 = .pointer (some ⟨w.heap.size, 0, none⟩) := hφ 6 (by decide)
    have k7 : vals 7 = .int .i64 (lo) := hφ 7 (by decide)
    have k8 : vals 8 = .int .i64 (hi - lo) := hφ 8 (by decide)
    have k9 : vals 9 = .int .i64 (hi - lo + 1) := hφ 9 (by decide)
    have k10 : vals 10 = .int .i64 (q) := hφ 10 (by decide)
    have k11 : vals 11 = .int .i64 (lo + q) := hφ 11 (by decide)
    have k12 : vals 12 = .int .i64 (lo + q) := hφ 12 (by decide)
    simp only [frOf, Act.put, List.setIfInBounds_toArray, List.set_cons_succ, List.set_cons_zero, k0, k1, k2, k3, k4, k5, k6, k7, k8, k9, k10, k11, k12]
    clear k0 k1 k2 k3 k4 k5 k6 k7 k8 k9 k10 k11 k12
    clear hall hφ hS0
    go_wp2_with fail
    go_ret
    exact ⟨ret_int hr.out, hS.below⟩
/-- A reader opened behind two blocks of two ints. -/
theorem dr_open2 {w w1 : World} {a : Option Addr} {m c : Nat} {z : Nat → Int} {t : TypeId} (h1 : Rd w1 ((w.alloc (.cells #[.int .i64 0, .int .i64 0] t)).alloc (.cells #[.int .i64 0, .int .i64 0] t)).heap.size a m c z 0) (g1 : ((w.alloc (.cells #[.int .i64 0, .int .i64 0] t)).alloc (.cells #[.int .i64 0, .int .i64 0] t)).grownBy w1 none) : Dr w (w.heap.size + 1 + 1) a m c z 0 [⟨w.heap.size, 0, IsI⟩, ⟨w.heap.size, 1, IsI⟩, ⟨w.heap.size + 1, 0, IsI⟩, ⟨w.heap.size + 1, 1, IsI⟩] w1 := by
  have e : ((w.alloc (.cells #[.int .i64 0, .int .i64 0] t)).alloc (.cells #[.int .i64 0, .int .i64 0] t)).heap.size = w.heap.size + 1 + 1 := by simp
  rw [e] at h1
  have g2 : ((w.alloc (.cells #[.int .i64 0, .int .i64 0] t)).alloc (.cells #[.int .i64 0, .int .i64 0] t)).grownBy w1 (some (w.heap.size + 1 + 1)) := ⟨g1.os, g1.tape, g1.output, g1.size, fun k hk _ => g1.block k hk (by simp)⟩
  have i0 : IsI (.int .i64 0) := ⟨0, rfl, by constructor <;> omega⟩
  refine ⟨⟨0, Nat.le_refl _, h1⟩, grown_trans (grown_trans (World.grownBy_alloc _ _ _) (World.grownBy_alloc _ _ _)) g2, ?_⟩
  refine Fs.next ?_ g2
  refine Fs.cons (by show w.heap.size ≠ _; omega) (Nat.le_refl _) (by show w.heap.size < _; simp; omega) (by simp [go_sem]) (v := .int .i64 0) (by simp [go_sem]) i0 ?_
  refine Fs.cons (by show w.heap.size ≠ _; omega) (Nat.le_refl _) (by show w.heap.size < _; simp; omega) (by simp [go_sem]) (v := .int .i64 0) (by simp [go_sem]) i0 ?_
  refine Fs.cons (by show w.heap.size + 1 ≠ _; omega) (Nat.le_succ _) (by show w.heap.size + 1 < _; simp) (by simp [go_sem]) (v := .int .i64 0) (by simp [go_sem]) i0 ?_
  exact Fs.cons (by show w.heap.size + 1 ≠ _; omega) (Nat.le_succ _) (by show w.heap.size + 1 < _; simp) (by simp [go_sem]) (v := .int .i64 0) (by simp [go_sem]) i0 (Fs.nil _ _ _)
theorem Dr.below2 {w : World} {R : Nat} {a : Option Addr} {m c : Nat} {z : Nat → Int} {Q : Nat} {F : List Sp} {W : World} (h : Dr w R a m c z Q F W) (hR : w.heap.size ≤ R) : Below w.heap.size w W := below_at (Below.refl _ _) h.grown hR
set_option maxRecDepth 10000 in
set_option maxHeartbeats 8000000 in
theorem drawItvDo (a : Option Addr) (len cap : Nat) (z : Nat → Int) (w : World) (hz : ∀ i, 0 ≤ z i ∧ z i ≤ 255) (hl : len ≤ 1048576) (h : Bytes w a len cap z) :
    Calls Try.prog 7 #[.slice a len cap] w fun e w' => ∃ op x0 x1 y0 y1 : Int, I64 op ∧ I64 x0 ∧ I64 x1 ∧ I64 y0 ∧ I64 y1 ∧ e = .returned (.tuple #[.int .i64 op, .agg #[.int .i64 x0, .int .i64 x1], .agg #[.int .i64 y0, .int .i64 y1]]) ∧ Below w.heap.size w w' := by
  have b0 : Below w.heap.size w ((w.alloc (.cells #[.int .i64 0, .int .i64 0] 24)).alloc (.cells #[.int .i64 0, .int .i64 0] 24)) := by
    repeat (first | exact Below.refl _ _ | refine Below.alloc ?_ (by simp; try omega) _)
  go_enter Try.func7, Try.ntmps7
  go_wp2_with fail
  refine (openS a len cap z _ hz hl (h.kept b0)).mono ?_
  rintro e w1 ⟨m, c, rfl, h1, g1⟩
  have D1 := dr_open2 h1 g1
  obtain ⟨R, hR⟩ : ∃ R, R = ((w.alloc (.cells #[.int .i64 0, .int .i64 0] 24)).alloc (.cells #[.int .i64 0, .int .i64 0] 24)).heap.size := ⟨_, rfl⟩
  have hR1 : R = w.heap.size + 1 + 1 := by rw [hR]; simp
  rw [← hR1] at D1
  rw [← hR]
  have hRw : w.heap.size ≤ R := by omega
  obtain ⟨FF, hF⟩ : ∃ F : List Sp, F = [⟨w.heap.size, 0, IsI⟩, ⟨w.heap.size, 1, IsI⟩, ⟨w.heap.size + 1, 0, IsI⟩, ⟨w.heap.size + 1, 1, IsI⟩] := ⟨_, rfl⟩
  rw [← hF] at D1
  have m0 : (⟨w.heap.size, 0, IsI⟩ : Sp) ∈ FF := by rw [hF]; simp
  have m1 : (⟨w.heap.size, 1, IsI⟩ : Sp) ∈ FF := by rw [hF]; simp
  have m2 : (⟨w.heap.size + 1, 0, IsI⟩ : Sp) ∈ FF := by rw [hF]; simp
  have m3 : (⟨w.heap.size + 1, 1, IsI⟩ : Sp) ∈ FF := by rw [hF]; simp
  clear hR hR1 hF h1 g1 h hz b0
  obtain ⟨p1, hp1, hr1⟩ := D1.rd
  go_wp2_with fail
  refine (pick R a m c z p1 4 _ hr1 (by omega) (by omega) (by omega)).mono ?_
  rintro e w2 ⟨y2, hy1, hy2, rfl, h2, g2⟩
  have D2 : Dr w R a m c z 1 FF w2 := D1.next h2 g2 (by omega)
  clear D1 h2 g2 hr1
  obtain ⟨p2, hp2, hr2⟩ := D2.rd
  go_wp2_with fail
  refine (oddS R a m c z p2 20 _ hr2 (by omega) (by omega) (by omega)).mono ?_
  rintro e w3 ⟨od, rfl, h3, g3⟩
  have D3 : Dr w R a m c z 2 FF w3 := D2.next h3 g3 (by omega)
  clear D2 h3 g3 hr2
  cases od
  · obtain ⟨p3, hp3, hr3⟩ := D3.rd
    obtain ⟨op, hop⟩ : ∃ op, op = 1 + y2 := ⟨_, rfl⟩
    have hoS : Hid (1 + y2 = op) := hop.symm
    have o1 : 0 ≤ op := by omega
    have o2 : op ≤ 5 := by omega
    clear hop
    go_wp2_with fail
    refine (itvD R a m c z p3 20 _ hr3 (by omega) (by omega) (by omega)).mono ?_
    rintro e w5 ⟨x0, x1, p5, hx0, hx1, rfl, hp5, h5, g5⟩
    have D5 : Dr w R a m c z 30 FF w5 := D3.next h5 g5 (by omega)
    clear D3 h5 hr3
    obtain ⟨p6, hp6, hr6⟩ := D5.rd
    go_wp2_with fail
    refine (itvD R a m c z p6 20 _ hr6 (by omega) (by omega) (by omega)).mono ?_
    rintro e w6 ⟨y0, y1, p7, hy0, hy1, rfl, hp7, h6, g6⟩
    have D6 : Dr w R a m c z 60 FF w6 := D5.next h6 g6 (by omega)
    clear D5 h6 hr6
    obtain ⟨u0, d0, -⟩ := D6.has m0
    obtain ⟨u1, d1, -⟩ := D6.has m1
    obtain ⟨u2, d2, -⟩ := D6.has m2
    obtain ⟨u3, d3, -⟩ := D6.has m3
    have f0 := D6.free m0
    have f1 := D6.free m1
    have f2 := D6.free m2
    have f3 := D6.free m3
    dsimp only at d0 d1 d2 d3 f0 f1 f2 f3
    have bE := D6.below2 hRw
    obtain ⟨e0, e1⟩ := own2 d0 d1
    obtain ⟨e2, e3⟩ := own4 (B := w.heap.size) (by omega) d2 d3
    clear D6
    go_wp2_with fail
    refine bodyPost_ret (v := .tuple #[.int .i64 op, .agg #[.int .i64 x0, .int .i64 x1], .agg #[.int .i64 y0, .int .i64 y1]]) (by simp [results, Try.results7, go_sem, e0, e1, e2, e3]; try exact hoS.out) rfl ⟨op, x0, x1, y0, y1, ⟨by omega, by omega⟩, hx0, hx1, hy0, hy1, rfl, ?_⟩
    repeat (first | exact bE | refine Below.setCell ?_ (by simp; try omega) _)
  · obtain ⟨p3, hp3, hr3⟩ := D3.rd
    go_wp2_with fail
    refine (pick R a m c z p3 2 _ (hr3.kept (World.grownBy_alloc _ _ none) (by simp)) (by omega) (by omega) (by omega)).mono ?_
    rintro e w4 ⟨y4, hy3, hy4, rfl, h4, g4⟩
    have hs3 := hr3.size
    obtain ⟨kk, rfl⟩ := Int.eq_ofNat_of_zero_le hy3
    obtain ⟨op, hv, o1, o2⟩ := tab_cell (lo := 0) (hi := 5) (all_of rfl) g4 hs3 kk (by simp; omega)
    have D4 : Dr w R a m c z 3 FF w4 := Dr.next (D3.below ((Below.refl _ _).alloc (Nat.le_refl _) _)) h4 g4 (by omega)
    clear hr3 h4
    have hoS : Hid (op = op) := rfl
    obtain ⟨p3, hp3, hr3⟩ := D4.rd
    have D3 := D4
    clear D4
    go_wp2_with fail
    refine (itvD R a m c z p3 20 _ hr3 (by omega) (by omega) (by omega)).mono ?_
    rintro e w5 ⟨x0, x1, p5, hx0, hx1, rfl, hp5, h5, g5⟩
    have D5 : Dr w R a m c z 30 FF w5 := D3.next h5 g5 (by omega)
    clear D3 h5 hr3
    obtain ⟨p6, hp6, hr6⟩ := D5.rd
    go_wp2_with fail
    refine (itvD R a m c z p6 20 _ hr6 (by omega) (by omega) (by omega)).mono ?_
    rintro e w6 ⟨y0, y1, p7, hy0, hy1, rfl, hp7, h6, g6⟩
    have D6 : Dr w R a m c z 60 FF w6 := D5.next h6 g6 (by omega)
    clear D5 h6 hr6
    obtain ⟨u0, d0, -⟩ := D6.has m0
    obtain ⟨u1, d1, -⟩ := D6.has m1
    obtain ⟨u2, d2, -⟩ := D6.has m2
    obtain ⟨u3, d3, -⟩ := D6.has m3
    have f0 := D6.free m0
    have f1 := D6.free m1
    have f2 := D6.free m2
    have f3 := D6.free m3
    dsimp only at d0 d1 d2 d3 f0 f1 f2 f3
    have bE := D6.below2 hRw
    obtain ⟨e0, e1⟩ := own2 d0 d1
    obtain ⟨e2, e3⟩ := own4 (B := w.heap.size) (by omega) d2 d3
    clear D6
    go_wp2_with fail
    refine bodyPost_ret (v := .tuple #[.int .i64 op, .agg #[.int .i64 x0, .int .i64 x1], .agg #[.int .i64 y0, .int .i64 y1]]) (by simp [results, Try.results7, go_sem, e0, e1, e2, e3]; try exact hoS.out) rfl ⟨op, x0, x1, y0, y1, ⟨by omega, by omega⟩, hx0, hx1, hy0, hy1, rfl, ?_⟩
    repeat (first | exact bE | refine Below.setCell ?_ (by simp; try omega) _)
end Go.Proofs.Ytceanngbcolbaaa
