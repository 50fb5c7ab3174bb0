/- Runs begun: the program's RunNew. -/
import Derived.Test.YtndedplmcjfgeaaRunNewS
namespace Go.Proofs.Ytndedplmcjfgeaa
open Go.ChangeShapes Go.WideShapes Go.ChangeAt Go.RowKit

theorem prg_itv {P : Nat → Proc} {m i : Nat} (h : prgOk P m = true) (hi : i < m) : itvOk (P i).lo (P i).hi = true := by
  have := prg_proc h hi
  simp only [procOk, Bool.and_eq_true] at this
  exact this.1.1.1
set_option maxHeartbeats 1000000 in
theorem mayI (lo hi : Int) (a : Option Addr) (n cap : Nat) (arg : Int) (w : World) :
    Calls Try.prog 56 #[.agg #[.int .i64 lo, .int .i64 hi, .slice a n cap], .int .i64 arg] w fun e w' => e = .returned (.bool (itvHas lo hi arg)) ∧ Below w.heap.size w w' := by
  have b0 : Below w.heap.size w (w.alloc (.cells #[.int .i64 lo, .int .i64 hi, .slice a n cap] 63)) := (Below.refl _ _).alloc (Nat.le_refl _) _
  go_enter Try.func56, Try.ntmps56
  go_wp2_with fail
  refine (givenI _ _ _ _ _ _).mono ?_
  rintro e w0 ⟨rfl, h0⟩
  go_wp2_with fail
  refine (itvHasI _ _ _ _).mono ?_
  rintro e w1 ⟨rfl, hb'⟩
  have hb := below_tr h0 hb'
  have b1 := below_tr b0 hb
  go_wp2_with fail
  go_ret
  exact ⟨rfl, b1⟩
set_option maxRecDepth 10000 in
set_option maxHeartbeats 8000000 in
theorem runNewI (a : Option Addr) (b off m cap : Nat) (P : Nat → Proc) (S : Nat → Spot) (proc arg : Int) (w : World) (hm : m ≤ 1048576) (hn : ∀ i, i < m → (P i).n ≤ 1048576) (hP : ProcsAt a b off m P S w) :
    Calls Try.prog 28 #[.agg #[.slice a m cap], .int .i64 proc, .int .i64 arg] w fun e w' => ∃ v, e = .returned v ∧ RunIs w.heap.size (newSt P m proc arg) 0 0 0 (newQ P m proc arg) (fun _ => EnterF proc arg) v w' ∧ Below w.heap.size w w' := by
  have H0 : HeldL w [(w.heap.size + 1, [Value.int .i64 0, .slice none 0 0, .int .i64 0, .int .i64 0, .int .i64 0]), (w.heap.size, [Value.slice a m cap])] ((w.alloc (.cells #[.slice a m cap] 29)).alloc (.cells #[.int .i64 0, .slice none 0 0, .int .i64 0, .int .i64 0, .int .i64 0] 47)) := by
    have e1 : w.heap.size + 1 = (w.alloc (.cells #[.slice a m cap] 29)).heap.size := by simp
    rw [e1]
    exact HeldL.newL (vs := [Value.int .i64 0, .slice none 0 0, .int .i64 0, .int .i64 0, .int .i64 0]) (HeldL.newL (vs := [Value.slice a m cap]) (HeldL.nil w))
  obtain ⟨Lb, hLb⟩ : ∃ L, L = [(w.heap.size + 1, [Value.int .i64 0, .slice none 0 0, .int .i64 0, .int .i64 0, .int .i64 0]), (w.heap.size, [Value.slice a m cap])] := ⟨_, rfl⟩
  have mO : (w.heap.size + 1, [Value.int .i64 0, .slice none 0 0, .int .i64 0, .int .i64 0, .int .i64 0]) ∈ Lb := by rw [hLb]; simp
  have mP : (w.heap.size, [Value.slice a m cap]) ∈ Lb := by rw [hLb]; simp
  have hLS : Hid (Lb = [(w.heap.size + 1, [Value.int .i64 0, .slice none 0 0, .int .i64 0, .int .i64 0, .int .i64 0]), (w.heap.size, [Value.slice a m cap])]) := hLb
  rw [← hLb] at H0
  clear hLb
  go_enter Try.func28, Try.ntmps28
  go_wp2_with fail
  refine (prgOkI _ _ _ _ _ _ _ _ hm hn (hP.next H0.below)).mono ?_
  rintro e w1 ⟨rfl, hb⟩
  have H1 := HeldL.next hb H0
  have c0 := H1.cell mP (i := 0) rfl
  dsimp only at c0
  clear H0 hb hn
  cases g : prgOk P m
  · have hT : Hid (newSt P m proc arg = 0 ∧ newQ P m proc arg = 0) := new_no (by simp [newB, g])
    clear g
    have o0 := H1.cell mO (i := 0) rfl
    have o1 := H1.cell mO (i := 1) rfl
    have o2 := H1.cell mO (i := 2) rfl
    have o3 := H1.cell mO (i := 3) rfl
    have o4 := H1.cell mO (i := 4) rfl
    have fO := H1.free _ mO
    dsimp only at o0 o1 o2 o3 o4 fO
    obtain ⟨e0, e1, e2, e3, e4⟩ := own5c o0 o1 o2 o3 o4
    have bE := H1.below
    go_wp2_with fail
    refine bodyPost_ret (v := .agg #[.int .i64 0, .slice none 0 0, .int .i64 0, .int .i64 0, .int .i64 0]) (by simp [results, Try.results28, go_sem, e0, e1, e2, e3, e4]) rfl ⟨_, rfl, ?_, ?_⟩
    · rw [hT.out.1, hT.out.2]
      exact ⟨none, 0, fun _ => ⟨⟨none, 0, 0, 0⟩, ⟨none, 0, 0, 0⟩⟩, rfl, fun h => by omega, fun i hi => by omega⟩
    · exact setAll_below (by omega) [.int .i64 0, .slice none 0 0, .int .i64 0, .int .i64 0, .int .i64 0] 0 _ bE
  have hg : Hid (prgOk P m = true) := g
  cases hq : placeB proc m
  · have hT : Hid (newSt P m proc arg = 0 ∧ newQ P m proc arg = 0) := new_no (by have : placeQ proc m = false := hq; simp [newB, this])
    clear g
    have o0 := H1.cell mO (i := 0) rfl
    have o1 := H1.cell mO (i := 1) rfl
    have o2 := H1.cell mO (i := 2) rfl
    have o3 := H1.cell mO (i := 3) rfl
    have o4 := H1.cell mO (i := 4) rfl
    have fO := H1.free _ mO
    dsimp only at o0 o1 o2 o3 o4 fO
    obtain ⟨e0, e1, e2, e3, e4⟩ := own5c o0 o1 o2 o3 o4
    have bE := H1.below
    go_wp2_with (go_at_call 40; refine (placeI _ _ _).mono ?_; rintro e w' ⟨rfl, rfl⟩; rw [hq])
    refine bodyPost_ret (v := .agg #[.int .i64 0, .slice none 0 0, .int .i64 0, .int .i64 0, .int .i64 0]) (by simp [results, Try.results28, go_sem, e0, e1, e2, e3, e4]) rfl ⟨_, rfl, ?_, ?_⟩
    · rw [hT.out.1, hT.out.2]
      exact ⟨none, 0, fun _ => ⟨⟨none, 0, 0, 0⟩, ⟨none, 0, 0, 0⟩⟩, rfl, fun h => by omega, fun i hi => by omega⟩
    · exact setAll_below (by omega) [.int .i64 0, .slice none 0 0, .int .i64 0, .int .i64 0, .int .i64 0] 0 _ bE
  have hq' : 0 ≤ proc ∧ proc < m := by simpa [placeB] using hq
  obtain ⟨p, rfl⟩ : ∃ p : Nat, proc = p := ⟨proc.toNat, by omega⟩
  have t1 : ((p : Int)).toNat = p := by omega
  have t2 : (0 : Int) ≤ (p : Int) := by omega
  have t3 : (p : Int) < (m : Int) := by omega
  have hp : p < m := by omega
  have hP1 := hP.next H1.below
  have ea := hP1.at_ (by omega)
  have l0 := hP1.lo p hp
  have l1 := hP1.hi p hp
  have l2 := hP1.code p hp
  have hok := prg_itv g hp
  have hnew : newB P m p arg = itvHas (P p).lo (P p).hi arg := by
    simp only [newB, placeQ, t1, g, itvHas, hok, inB]
    simp [t2, t3]
  subst ea
  clear g hP1 hP hq' hok
  generalize (P p).lo = lo at l0 hnew
  generalize (P p).hi = hi at l1 hnew
  generalize (P p).n = n at l2
  generalize S p = s at l2
  go_wp2_with (go_at_call 40; refine (placeI _ _ _).mono ?_; rintro e w' ⟨rfl, rfl⟩; rw [hq])
  refine (mayI _ _ _ _ _ _ _).mono ?_
  rintro e w2 ⟨rfl, hb⟩
  have H2 := HeldL.next hb H1
  clear H1 hb c0 l0 l1 l2 hq
  cases r : itvHas lo hi arg
  · rw [r] at hnew
    have hT : Hid (newSt P m p arg = 0 ∧ newQ P m p arg = 0) := new_no hnew
    clear hnew
    have o0 := H2.cell mO (i := 0) rfl
    have o1 := H2.cell mO (i := 1) rfl
    have o2 := H2.cell mO (i := 2) rfl
    have o3 := H2.cell mO (i := 3) rfl
    have o4 := H2.cell mO (i := 4) rfl
    have fO := H2.free _ mO
    dsimp only at o0 o1 o2 o3 o4 fO
    obtain ⟨e0, e1, e2, e3, e4⟩ := own5c o0 o1 o2 o3 o4
    have bE := H2.below
    go_wp2_with fail
    refine bodyPost_ret (v := .agg #[.int .i64 0, .slice none 0 0, .int .i64 0, .int .i64 0, .int .i64 0]) (by simp [results, Try.results28, go_sem, e0, e1, e2, e3, e4]) rfl ⟨_, rfl, ?_, ?_⟩
    · rw [hT.out.1, hT.out.2]
      exact ⟨none, 0, fun _ => ⟨⟨none, 0, 0, 0⟩, ⟨none, 0, 0, 0⟩⟩, rfl, fun h => by omega, fun i hi => by omega⟩
    · exact setAll_below (by omega) [.int .i64 0, .slice none 0 0, .int .i64 0, .int .i64 0, .int .i64 0] 0 _ bE
  · rw [r] at hnew
    have hT : Hid (newSt P m p arg = 1 ∧ newQ P m p arg = 1) := new_yes hnew
    clear hnew
    go_wp2_with fail
    refine (newCallI _ _ _).mono ?_
    rintro e w5 ⟨v, rfl, ⟨g, g', rfl, hg1, hg2, hg3, hg4, hgg, I1, I2, f1, f2⟩, hb⟩
    have hsW := H2.below.size
    have lW := HeldL.size H2 mO
    have H4 := HeldL.next hb H2
    have lO := H4.size mO
    dsimp only at lO lW
    have o0 := H4.cell mO (i := 0) rfl
    have o1 := H4.cell mO (i := 1) rfl
    have o2 := H4.cell mO (i := 2) rfl
    have o3 := H4.cell mO (i := 3) rfl
    have o4 := H4.cell mO (i := 4) rfl
    have fO := H4.free _ mO
    dsimp only at o0 o1 o2 o3 o4 fO
    obtain ⟨e0, e1, e2, e3, e4⟩ := own5c o0 o1 o2 o3 o4
    have b5 := H4.below
    have s6 : (setAll (w.heap.size + 1) 0 [.int .i64 1, .slice (some ⟨w5.heap.size, 0, none⟩) 1 1, .int .i64 0, .int .i64 0, .int .i64 0] w5).heap.size = w5.heap.size := by simp [setAll, World.setCell]
    have b6 : Below w.heap.size w (setAll (w.heap.size + 1) 0 [.int .i64 1, .slice (some ⟨w5.heap.size, 0, none⟩) 1 1, .int .i64 0, .int .i64 0, .int .i64 0] w5) := setAll_below (by omega) [.int .i64 1, .slice (some ⟨w5.heap.size, 0, none⟩) 1 1, .int .i64 0, .int .i64 0, .int .i64 0] 0 _ b5
    have J1 : IntsAt (some ⟨g, 0, none⟩) g 0 4 (entZ arg) (setAll (w.heap.size + 1) 0 [.int .i64 1, .slice (some ⟨w5.heap.size, 0, none⟩) 1 1, .int .i64 0, .int .i64 0, .int .i64 0] w5) := I1.set (by omega)
    have J2 : IntsAt (some ⟨g', 0, none⟩) g' 0 4 (fun _ => 0) (setAll (w.heap.size + 1) 0 [.int .i64 1, .slice (some ⟨w5.heap.size, 0, none⟩) 1 1, .int .i64 0, .int .i64 0, .int .i64 0] w5) := I2.set (by omega)
    have k1 : ∀ j, (setAll (w.heap.size + 1) 0 [.int .i64 1, .slice (some ⟨w5.heap.size, 0, none⟩) 1 1, .int .i64 0, .int .i64 0, .int .i64 0] w5).frozen? ⟨g, j, none⟩ = false := fun j => (setAll_frozen _ _ _ _).trans (f1 j)
    have k2 : ∀ j, (setAll (w.heap.size + 1) 0 [.int .i64 1, .slice (some ⟨w5.heap.size, 0, none⟩) 1 1, .int .i64 0, .int .i64 0, .int .i64 0] w5).frozen? ⟨g', j, none⟩ = false := fun j => (setAll_frozen _ _ _ _).trans (f2 j)
    have fin := runIs_one (B := w.heap.size) (proc := p) (t := 73) (by rw [s6]; omega) ⟨by omega, by rw [s6]; exact hg2⟩ ⟨by omega, by rw [s6]; exact hg4⟩ hgg J1 J2 k1 k2
    rw [s6] at fin
    have finS : Hid (RunIs w.heap.size 1 0 0 0 1 (fun _ => EnterF p arg) (.agg #[.int .i64 1, .slice (some ⟨w5.heap.size, 0, none⟩) 1 1, .int .i64 0, .int .i64 0, .int .i64 0]) ((setAll (w.heap.size + 1) 0 [.int .i64 1, .slice (some ⟨w5.heap.size, 0, none⟩) 1 1, .int .i64 0, .int .i64 0, .int .i64 0] w5).alloc (.cells #[.int .i64 p, .int .i64 0, .slice (some ⟨g, 0, none⟩) 4 4, .slice (some ⟨g', 0, none⟩) 4 4] 73))) := fin
    have bS : Hid (Below w.heap.size w ((setAll (w.heap.size + 1) 0 [.int .i64 1, .slice (some ⟨w5.heap.size, 0, none⟩) 1 1, .int .i64 0, .int .i64 0, .int .i64 0] w5).alloc (.cells #[.int .i64 p, .int .i64 0, .slice (some ⟨g, 0, none⟩) 4 4, .slice (some ⟨g', 0, none⟩) 4 4] 73))) := b6.alloc b6.size _
    clear hb H4 I1 I2 J1 J2 f1 f2 k1 k2 fin b6 s6
    go_wp2_with fail
    refine bodyPost_ret (v := .agg #[.int .i64 1, .slice (some ⟨w5.heap.size, 0, none⟩) 1 1, .int .i64 0, .int .i64 0, .int .i64 0]) (by simp [results, Try.results28, go_sem, e0, e1, e2, e3, e4, lO]) rfl ⟨_, rfl, ?_, ?_⟩
    · rw [hT.out.1, hT.out.2]
      exact finS.out
    · exact bS.out
end Go.Proofs.Ytndedplmcjfgeaa
