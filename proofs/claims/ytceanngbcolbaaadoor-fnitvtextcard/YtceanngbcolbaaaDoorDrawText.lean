/- What the drawing of bounds' texts answers: DrawItvText bounds, DrawItvRead some text of at most 100 bytes; ItvText's answers, by names. -/
import Derived.Test.YtceanngbcolbaaaDoorDrawItvA
import Derived.Test.YtceanngbcolbaaaDoorDrawOf
import Derived.Test.YtceanngbcolbaaaDoorDrawStr
import Derived.Test.YtceanngbcolbaaaDoorItvText
import Derived.Test.YtceanngbcolbaaaDoorPlainRead
import Derived.Test.YtceanngbcolbaaaDoorHeld
namespace Go.Proofs.YtceanngbcolbaaaDoor
open Go.ChangeShapes Go.WideShapes Go.ChangeAt Go.RowKit

theorem itvText_is {a b : Int} (h : itvOk a b = true) : itvText a b = itvTx a b := by
  rw [itvText, if_pos h, itvTx, List.append_assoc]
theorem itvText_no {a b : Int} (h : itvOk a b = false) : itvText a b = [] := by simp [itvText, h]
theorem itvText_size (a b : Int) : (⟨(itvText a b).toArray⟩ : ByteArray).size ≤ 20 := by
  show (itvText a b).toArray.size ≤ 20
  cases h : itvOk a b
  · rw [itvText_no h]; simp
  · rw [itvText, if_pos h]
    obtain ⟨k1, k2, _⟩ := itvOk_of h
    have := itoa_small k1
    have := itoa_small k2
    simp
    omega
theorem textI_is (a b : Int) (T : ByteArray) (w : World) (htab : Lib.TabIs Tryd.prog w "internal/strconv.uint64pow10" .u64 Lib.pow10Tab) (h : (⟨(itvText a b).toArray⟩ : ByteArray) = T) :
    Calls Tryd.prog 8 #[.agg #[.int .i64 a, .int .i64 b]] w fun e w' => e = .returned (.string T) ∧ Below w.heap.size w w' := by
  subst h; exact itvTextI a b w htab
theorem textS_is (a b : Int) (T : ByteArray) (w : World) (h : (⟨(itvText a b).toArray⟩ : ByteArray) = T) :
    Calls Tryd.prog 9 #[.agg #[.int .i64 a, .int .i64 b]] w fun e w' => e = .returned (.string T) ∧ Below w.heap.size w w' := by
  subst h; exact itvTextS a b w
set_option maxHeartbeats 2000000 in
theorem drawItvText (a : Option Addr) (len cap : Nat) (z : Nat → Int) (w : World) (hz : ∀ i, 0 ≤ z i ∧ z i ≤ 255) (hl : len ≤ 1048576) (h : Bytes w a len cap z) :
    Calls Tryd.prog 4 #[.slice a len cap] w fun e w' => ∃ x y : Int, I64 x ∧ I64 y ∧ e = .returned (.agg #[.int .i64 x, .int .i64 y]) ∧ Below w.heap.size w w' := by
  have b0 : Below w.heap.size w (w.alloc (.cells #[.int .i64 0, .int .i64 0] 24)) := (Below.refl _ _).alloc (Nat.le_refl _) _
  go_enter Tryd.func4, Tryd.ntmps4
  go_wp2_with fail
  refine (openS a len cap z _ hz hl (h.kept b0)).mono ?_
  rintro e w1 ⟨m, c, rfl, h1, g1⟩
  have D1 := dr_open (by constructor <;> omega) (by constructor <;> omega) h1 g1
  obtain ⟨R, hR⟩ : ∃ R, R = (w.alloc (.cells #[.int .i64 0, .int .i64 0] 24)).heap.size := ⟨_, rfl⟩
  have hR1 : R = w.heap.size + 1 := by rw [hR]; simp
  rw [← hR1] at D1
  rw [← hR]
  have hRw : w.heap.size ≤ R := by omega
  clear hR hR1 h1 g1 b0 h
  obtain ⟨p1, hp1, hr1⟩ := D1.rd
  go_wp2_with fail
  refine (itvD R a m c z p1 6 _ hr1 (by omega) (by omega) (by omega)).mono ?_
  rintro e w2 ⟨x, y, p2, hx, hy, rfl, hp2, h2, g2⟩
  have D2 : Dr w R a m c z 20 _ w2 := D1.next h2 g2 (by omega)
  obtain ⟨u0, d0, -⟩ := D2.has (f := ⟨w.heap.size, 0, IsI⟩) (by simp)
  obtain ⟨u1, d1, -⟩ := D2.has (f := ⟨w.heap.size, 1, IsI⟩) (by simp)
  have f0 := D2.free (f := ⟨w.heap.size, 0, IsI⟩) (by simp)
  have f1 := D2.free (f := ⟨w.heap.size, 1, IsI⟩) (by simp)
  dsimp only at d0 d1 f0 f1
  have bE := D2.below0 hRw
  obtain ⟨e0, e1⟩ := own2 d0 d1
  clear D1 D2 hr1 h2 g2
  go_wp2_with fail
  refine bodyPost_ret (v := .agg #[.int .i64 x, .int .i64 y]) (by simp [results, Tryd.results4, go_sem, e0, e1]) rfl ⟨x, y, hx, hy, rfl, ?_⟩
  repeat (first | exact bE | refine Below.setCell ?_ (by simp; try omega) _)
set_option maxHeartbeats 2000000 in
theorem drawItvRead (a : Option Addr) (len cap : Nat) (z : Nat → Int) (w : World) (hz : ∀ i, 0 ≤ z i ∧ z i ≤ 255) (hl : len ≤ 1048576) (h : Bytes w a len cap z) :
    Calls Tryd.prog 5 #[.slice a len cap] w fun e w' => ∃ t : ByteArray, e = .returned (.string t) ∧ t.size ≤ 100 ∧ Below w.heap.size w w' := by
  go_enter Tryd.func5, Tryd.ntmps5
  go_wp2_with fail
  refine (openS a len cap z _ hz hl h).mono ?_
  rintro e w1 ⟨m, c, rfl, h1, g1⟩
  have b1 : Below w.heap.size w w1 := (Below.refl _ _).grown g1 (Nat.le_refl _) (by simp)
  go_wp2_with fail
  refine (itvDA w.heap.size a m c z 0 99999 _ h1 (by omega) (by omega)).mono ?_
  rintro e w2 ⟨x, y, p2, hx, hy, rfl, hp2, h2, g2⟩
  have b2 := below_at b1 g2 (Nat.le_refl _)
  go_wp2_with fail
  refine (itvTextS x y _).mono ?_
  rintro e w3 ⟨rfl, g3⟩
  have b3 := b2.trans (g3.mono b2.size)
  have h3 := h2.old g3
  have hts := itvText_size x y
  generalize (⟨(itvText x y).toArray⟩ : ByteArray) = t at hts
  go_wp2_with fail
  refine (pick w.heap.size a m c z p2 3 _ h3 (by omega) (by omega) (by omega)).mono ?_
  rintro e w4 ⟨y, hy1, hy2, rfl, h4, g4⟩
  have b4 := below_at b3 g4 (Nat.le_refl _)
  by_cases h0 : y = 0
  · subst h0
    go_wp2_with fail
    refine (pick w.heap.size a m c z (p2 + 1) 9 _ (h4.kept (World.grownBy_alloc _ _ none) (by simp)) (by omega) (by omega) (by omega)).mono ?_
    rintro e w5 ⟨u0, hu1, hu2, rfl, h5, g5⟩
    obtain ⟨u, rfl⟩ := Int.eq_ofNat_of_zero_le hu1
    obtain ⟨s, hsc, hss⟩ := str_cell (n := 100) (by decide) g5 h4.size u (by simp; omega)
    have b5 := below_at (b4.alloc b4.size _) g5 (Nat.le_refl _)
    go_wp2_with fail
    go_ret
    exact ⟨s, rfl, hss, b5⟩
  have e0 : (y == 0) = false := by simpa using h0
  go_wp2_with fail
  refine (pick w.heap.size a m c z (p2 + 1) 3 _ h4 (by omega) (by omega) (by omega)).mono ?_
  rintro e w5 ⟨u, hu1, hu2, rfl, h5, g5⟩
  have b5 := below_at b4 g5 (Nat.le_refl _)
  by_cases h0' : u = 0
  · subst h0'
    go_wp2_with fail
    refine (bentS w.heap.size a m c z (p2 + 2) t _ h5 (by omega) (by omega)).mono ?_
    rintro e w6 ⟨s, p6, rfl, hss, hp6, h6, g6⟩
    have b6 := below_at b5 g6 (Nat.le_refl _)
    go_wp2_with fail
    go_ret
    exact ⟨s, rfl, by omega, b6⟩
  · have e0' : (u == 0) = false := by simpa using h0'
    go_wp2_with fail
    go_ret
    exact ⟨t, rfl, by omega, b5⟩
end Go.Proofs.YtceanngbcolbaaaDoor
