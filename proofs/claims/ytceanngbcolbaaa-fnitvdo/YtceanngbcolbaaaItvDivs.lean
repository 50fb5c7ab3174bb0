/- Quotients of bounds, all cases: the model's (S). -/
import Derived.Test.YtceanngbcolbaaaItvDiv
namespace Go.Proofs.Ytceanngbcolbaaa
open Go.RowKit

theorem divS (a b c d : Int) (w : World) (hab : itvOk a b = true) (hcd : itvOk c d = true) (h0 : ¬ (c = 0 ∧ d = 0)) :
    Calls Try.prog 40 #[.agg #[.int .i64 a, .int .i64 b], .agg #[.int .i64 c, .int .i64 d]] w fun e w' => e = .returned (.agg #[.int .i64 (divLo a b c d), .int .i64 (divHi a b c d)]) ∧ Below w.heap.size w w' := by
  obtain ⟨ha, hb, _⟩ := itvOk_of hab
  obtain ⟨_, _, h⟩ := itvOk_of hcd
  by_cases h1 : 1 ≤ c
  · have e : max c 1 = c := by omega
    have x : divLo a b c d = spanLo (a.tdiv c) (a.tdiv d) (b.tdiv c) (b.tdiv d) := by rw [divLo, if_pos (by omega), e]
    have y : divHi a b c d = spanHi (a.tdiv c) (a.tdiv d) (b.tdiv c) (b.tdiv d) := by rw [divHi, if_pos (by omega), e]
    rw [x, y]
    exact divS_1 a b c d w ha hb h1 (by omega)
  by_cases h2 : c = 0
  · subst h2
    have x : divLo a b 0 d = spanLo a (a.tdiv d) b (b.tdiv d) := by rw [divLo, if_pos (by omega), show max (0 : Int) 1 = 1 from rfl, Int.tdiv_one, Int.tdiv_one]
    have y : divHi a b 0 d = spanHi a (a.tdiv d) b (b.tdiv d) := by rw [divHi, if_pos (by omega), show max (0 : Int) 1 = 1 from rfl, Int.tdiv_one, Int.tdiv_one]
    rw [x, y]
    exact divS_0 a b d w ha hb (by omega)
  by_cases h3 : d ≤ -1
  · have e : min d (-1) = d := by omega
    have x : divLo a b c d = spanLo (a.tdiv c) (a.tdiv d) (b.tdiv c) (b.tdiv d) := by rw [divLo, if_neg (by omega), if_pos (by omega), e]
    have y : divHi a b c d = spanHi (a.tdiv c) (a.tdiv d) (b.tdiv c) (b.tdiv d) := by rw [divHi, if_neg (by omega), if_pos (by omega), e]
    rw [x, y]
    exact divS_n a b c d w ha hb (by omega) h3
  have t1 : ∀ n : Int, n.tdiv (-1) = -n := fun n => by rw [Int.tdiv_neg, Int.tdiv_one]
  by_cases h4 : d = 0
  · subst h4
    have x : divLo a b c 0 = spanLo (a.tdiv c) (-a) (b.tdiv c) (-b) := by
      rw [divLo, if_neg (by omega), if_pos (by omega), show min (0 : Int) (-1) = -1 from rfl, t1, t1]
    have y : divHi a b c 0 = spanHi (a.tdiv c) (-a) (b.tdiv c) (-b) := by
      rw [divHi, if_neg (by omega), if_pos (by omega), show min (0 : Int) (-1) = -1 from rfl, t1, t1]
    rw [x, y]
    exact divS_m a b c w ha hb (by omega)
  · have x : divLo a b c d = min (spanLo (a.tdiv c) (-a) (b.tdiv c) (-b)) (spanLo a (a.tdiv d) b (b.tdiv d)) := by
      rw [divLo, if_neg (by omega), if_neg (by omega), t1, t1]
    have y : divHi a b c d = max (spanHi (a.tdiv c) (-a) (b.tdiv c) (-b)) (spanHi a (a.tdiv d) b (b.tdiv d)) := by
      rw [divHi, if_neg (by omega), if_neg (by omega), t1, t1]
    rw [x, y]
    exact divS_b a b c d w ha hb (by omega) (by omega)
end Go.Proofs.Ytceanngbcolbaaa
