/- Engines: how far, in which round, and a paper. In memory, counted, copied, held against each other, handed in; EngOk, the model's and the program's. -/
import Derived.Test.YtdpkbbbfnmneiaaCertOk
import Derived.Test.YtdpkbbbfnmneiaaCertX
namespace Go.Proofs.Ytdpkbbbfnmneiaa
open Go.ChangeShapes Go.WideShapes Go.ChangeAt Go.RowKit
set_option linter.unusedVariables false

theorem szEng (ph rd : Int) (a : Option Addr) (b off m cap : Nat) (R : Nat → Rw) (T : Nat → RSpot) (a' : Option Addr) (n' cap' : Nat) (left : Int) (w : World) (hl : 0 ≤ left ∧ left ≤ 1048576) (hm : m ≤ maxLen) (hP : RowsAt a b off m R T w) (hn : ∀ i, i < m → (R i).n ≤ maxLen ∧ ∀ j, j < (R i).n → ((R i).x j).n ≤ maxLen) (hn' : n' ≤ maxLen) :
    Calls Try.prog 18 #[.agg #[.int .i64 ph, .int .i64 rd, .slice a m cap, .slice a' n' cap'], .int .i64 left] w fun e w' => ∃ r : Int, e = .returned (.int .i64 r) ∧ (r = -1 ∨ (r = left - m - rowsTo R m - n' ∧ 0 ≤ r)) ∧ Below w.heap.size w w' := by
  have H0 : HeldL w [(w.heap.size, [Value.int .i64 ph, .int .i64 rd, .slice a m cap, .slice a' n' cap'])] (w.alloc (.cells #[.int .i64 ph, .int .i64 rd, .slice a m cap, .slice a' n' cap'] 48)) := HeldL.newL (vs := [Value.int .i64 ph, .int .i64 rd, .slice a m cap, .slice a' n' cap']) (HeldL.nil w)
  have hP0 := hP.next H0.below
  clear hP
  go_enter Try.func18, Try.ntmps18
  go_wp2_with fail
  refine (szCert _ _ _ _ _ _ _ _ _ _ _ _ hl hm hP0 hn hn').mono ?_
  rintro e w1 ⟨r, rfl, hr, hb⟩
  have H1 := H0.next hb
  clear hP0 hn H0 hb
  rcases hr with rfl | ⟨hr, h0⟩
  · go_wp2_with fail
    go_ret
    exact ⟨_, rfl, .inl rfl, H1.below⟩
  · have hrS : Hid (r = left - m - rowsTo R m - n') := hr
    clear hr
    have hr' : ¬ r < 0 := by omega
    go_wp2_with fail
    go_ret
    exact ⟨_, rfl, .inr ⟨hrS.out, h0⟩, H1.below⟩
set_option maxHeartbeats 4000000 in
theorem toEng (ph rd : Int) (a : Option Addr) (b off m cap : Nat) (R : Nat → Rw) (T : Nat → RSpot) (a' : Option Addr) (b' off' n cap' : Nat) (U : Nat → Sm) (w : World) (hm : m ≤ 1048576) (hn : ∀ i, i < m → (R i).n ≤ 1048576 ∧ ∀ j, j < (R i).n → ((R i).x j).n ≤ 1048576) (hn' : n ≤ 1048576) (hP : RowsAt a b off m R T w) (hU : SumsAt a' b' off' n U w) :
    Calls Try.prog 20 #[.agg #[.int .i64 ph, .int .i64 rd, .slice a m cap, .slice a' n cap']] w fun e w' => ∃ (g : Nat) (C : Nat → Nat) (B : Nat → Nat → Nat) (h : Nat), e = .returned (.agg #[.int .i64 ph, .int .i64 rd, .slice (some ⟨g, 0, none⟩) m m, .slice (some ⟨h, 0, none⟩) n n]) ∧ g < w'.heap.size ∧ CertAt g C B h R m U n w' ∧ Below w.heap.size w w' := by
  have H0 : HeldL w [(w.heap.size + 1 + 1, [Value.int .i64 ph, .int .i64 rd, .slice none 0 0, .slice none 0 0]), (w.heap.size + 1, [Value.int .i64 0, .int .i64 0, .slice none 0 0, .slice none 0 0]), (w.heap.size, [Value.int .i64 ph, .int .i64 rd, .slice a m cap, .slice a' n cap'])] (((w.alloc (.cells #[.int .i64 ph, .int .i64 rd, .slice a m cap, .slice a' n cap'] 48)).alloc (.cells #[.int .i64 0, .int .i64 0, .slice none 0 0, .slice none 0 0] 52)).alloc (.cells #[.int .i64 ph, .int .i64 rd, .slice none 0 0, .slice none 0 0] 52)) := by
    have e1 : w.heap.size + 1 = (w.alloc (.cells #[.int .i64 ph, .int .i64 rd, .slice a m cap, .slice a' n cap'] 48)).heap.size := by simp
    have e2 : w.heap.size + 1 + 1 = ((w.alloc (.cells #[.int .i64 ph, .int .i64 rd, .slice a m cap, .slice a' n cap'] 48)).alloc (.cells #[.int .i64 0, .int .i64 0, .slice none 0 0, .slice none 0 0] 52)).heap.size := by simp
    rw [e2, e1]
    exact HeldL.newL (vs := [Value.int .i64 ph, .int .i64 rd, .slice none 0 0, .slice none 0 0]) (HeldL.newL (vs := [Value.int .i64 0, .int .i64 0, .slice none 0 0, .slice none 0 0]) (HeldL.newL (vs := [Value.int .i64 ph, .int .i64 rd, .slice a m cap, .slice a' n cap']) (HeldL.nil w)))
  have ne2 : ∀ e ∈ [(w.heap.size + 1, [Value.int .i64 0, .int .i64 0, .slice none 0 0, .slice none 0 0]), (w.heap.size, [Value.int .i64 ph, .int .i64 rd, .slice a m cap, .slice a' n cap'])], e.1 ≠ w.heap.size + 1 + 1 := by intro e he; simp at he; rcases he with rfl | rfl <;> dsimp only <;> omega
  have I0 := hP.next H0.below
  have J0 := hU.next H0.below
  have z2 := H0.cell List.mem_cons_self (i := 2) rfl
  dsimp only at z2
  clear hP hU
  go_enter Try.func20, Try.ntmps20
  go_wp2_with fail
  refine (toCert _ _ _ _ _ _ _ _ _ _ _ _ _ _ hm hn hn' I0 J0).mono ?_
  rintro e w1 ⟨g, C, B, h, rfl, hg, hg1, hh1, gh, hK, hf, hL, hb⟩
  have H1 := H0.next hb
  have gg : w.heap.size + 1 + 1 + 1 ≤ g := by simpa using hg
  clear H0 I0 J0 hb hg z2 hn
  have x2 := H1.cell List.mem_cons_self (i := 2) rfl
  have x3 := H1.cell List.mem_cons_self (i := 3) rfl
  have fB := H1.free _ List.mem_cons_self
  have H4 := HeldL.putI (i := 3) (x := .slice (some ⟨h, 0, none⟩) n n) (by omega) ne2 (HeldL.putI (i := 2) (x := .slice (some ⟨g, 0, none⟩) m m) (by omega) ne2 H1 (by simp)) (by simp)
  simp only [List.set_cons_succ, List.set_cons_zero] at H4
  have o0 := H4.cell List.mem_cons_self (i := 0) rfl
  have o1 := H4.cell List.mem_cons_self (i := 1) rfl
  have o2 := H4.cell List.mem_cons_self (i := 2) rfl
  have o3 := H4.cell List.mem_cons_self (i := 3) rfl
  have HR := H4.sub (L' := [(w.heap.size + 1, [Value.int .i64 0, .int .i64 0, .slice none 0 0, .slice none 0 0])]) (fun e he => by simp at he; subst he; simp)
  have r0 := HR.cell List.mem_cons_self (i := 0) rfl
  have r1 := HR.cell List.mem_cons_self (i := 1) rfl
  have r2 := HR.cell List.mem_cons_self (i := 2) rfl
  have r3 := HR.cell List.mem_cons_self (i := 3) rfl
  have fr := HR.free _ List.mem_cons_self
  dsimp only at x2 x3 fB o0 r0 o1 r1 o2 r2 o3 r3 fr
  obtain ⟨e0, e1, e2, e3⟩ := own4c r0 r1 r2 r3
  have bE := H4.below
  have bl := hf.blocks (x := w.heap.size + 1 + 1) (by omega)
  have bl1 := hf.blocks (x := w.heap.size + 1) (by omega)
  clear H1 HR
  go_wp2_with fail
  refine bodyPost_ret (v := .agg #[.int .i64 ph, .int .i64 rd, .slice (some ⟨g, 0, none⟩) m m, .slice (some ⟨h, 0, none⟩) n n]) (by simp [results, Try.results20, go_sem, e0, e1, e2, e3]) rfl ⟨g, C, B, h, rfl, ?_, ⟨?_, gh, ?_, ?_, ?_⟩, ?_⟩
  · simpa [World.setCell] using hg1
  · simpa [World.setCell] using hh1
  · exact (((((hf.set _ _).set _ _).set _ _).set _ _).set _ _).set _ _
  · exact RowsAt.set (G := w.heap.size + 1) (o := 0) (vs := [.int .i64 ph, .int .i64 rd, .slice (some ⟨g, 0, none⟩) m m, .slice (some ⟨h, 0, none⟩) n n]) (RowsAt.set (G := w.heap.size + 1 + 1) (o := 2) (vs := [.slice (some ⟨g, 0, none⟩) m m, .slice (some ⟨h, 0, none⟩) n n]) hK (by omega) bl) (by omega) bl1
  · exact SumsAt.set (G := w.heap.size + 1) (o := 0) (vs := [.int .i64 ph, .int .i64 rd, .slice (some ⟨g, 0, none⟩) m m, .slice (some ⟨h, 0, none⟩) n n]) (SumsAt.set (G := w.heap.size + 1 + 1) (o := 2) (vs := [.slice (some ⟨g, 0, none⟩) m m, .slice (some ⟨h, 0, none⟩) n n]) hL (by omega)) (by omega)
  · exact setAll_below (g := w.heap.size + 1) (by omega) [.int .i64 ph, .int .i64 rd, .slice (some ⟨g, 0, none⟩) m m, .slice (some ⟨h, 0, none⟩) n n] 0 _ bE
set_option maxHeartbeats 2000000 in
theorem eqEng (ph rd : Int) (g h g' h' m n : Nat) (R : Nat → Rw) (C E : Nat → Nat) (B D : Nat → Nat → Nat) (U : Nat → Sm) (w : World) (hm : m ≤ 1048576) (hn : ∀ i, i < m → (R i).n ≤ 1048576 ∧ ∀ j, j < (R i).n → ((R i).x j).n ≤ 1048576) (hn' : n ≤ 1048576) (h1 : CertAt g C B g' R m U n w) (h2 : CertAt h E D h' R m U n w) :
    Calls Try.prog 22 #[.agg #[.int .i64 ph, .int .i64 rd, .slice (some ⟨g, 0, none⟩) m m, .slice (some ⟨g', 0, none⟩) n n], .agg #[.int .i64 ph, .int .i64 rd, .slice (some ⟨h, 0, none⟩) m m, .slice (some ⟨h', 0, none⟩) n n]] w fun e w' => e = .returned (.bool true) ∧ Below w.heap.size w w' := by
  have b0 : Below w.heap.size w ((w.alloc (.cells #[.int .i64 ph, .int .i64 rd, .slice (some ⟨g, 0, none⟩) m m, .slice (some ⟨g', 0, none⟩) n n] 52)).alloc (.cells #[.int .i64 ph, .int .i64 rd, .slice (some ⟨h, 0, none⟩) m m, .slice (some ⟨h', 0, none⟩) n n] 52)) := by
    repeat (first | exact Below.refl _ _ | refine Below.alloc ?_ (by simp; try omega) _)
  have I1 := h1.next b0
  have I2 := h2.next b0
  clear h1 h2
  go_enter Try.func22, Try.ntmps22
  go_wp2_with fail
  refine (eqCertX _ _ _ _ _ _ _ _ _ _ _ _ _ hm hn hn' I1 I2).mono ?_
  rintro e w1 ⟨rfl, hb⟩
  clear I1 I2 hn
  go_wp2_with fail
  go_ret
  exact ⟨rfl, below_tr b0 hb⟩
def EngV (ph rd : Int) (R : Nat → Rw) (m : Nat) (U : Nat → Sm) (n : Nat) (v : Value) (W : World) : Prop := ∃ (g : Nat) (C : Nat → Nat) (B : Nat → Nat → Nat) (h : Nat), v = .agg #[.int .i64 ph, .int .i64 rd, .slice (some ⟨g, 0, none⟩) m m, .slice (some ⟨h, 0, none⟩) n n] ∧ g < W.heap.size ∧ CertAt g C B h R m U n W
theorem EngV.next {ph rd : Int} {R : Nat → Rw} {m : Nat} {U : Nat → Sm} {n : Nat} {v : Value} {W W' : World} (h : EngV ph rd R m U n v W) (hb : Below W.heap.size W W') : EngV ph rd R m U n v W' := by
  obtain ⟨g, C, B, q, e, h1, h2⟩ := h
  exact ⟨g, C, B, q, e, Nat.lt_of_lt_of_le h1 hb.size, h2.next hb⟩
set_option maxRecDepth 10000 in
theorem open_eng {H : Type} {enc : TypeId × Value → H} {w : World} {base : Nat} {sp : Nat → Bool} {held : Bool} {r : Reach} {b0 : Nat} {v : Value} {d : DataW H} {ps : List MemPlace}
    (hv : Value.okWide Try.prog w r b0 48 v) (h : DataW.Trod enc Try.prog w base sp held 48 v d ps) :
    ∃ (ph rd : Int) (a : Option Addr) (m cap : Nat) (a' : Option Addr) (n' cap' : Nat), v = .agg #[.int .i64 ph, .int .i64 rd, .slice a m cap, .slice a' n' cap'] ∧ m ≤ maxLen ∧ (∀ i, i < m → (rwAt w (blk a) (ofs a) i).n ≤ maxLen ∧ ∀ j, j < (rwAt w (blk a) (ofs a) i).n → ((rwAt w (blk a) (ofs a) i).x j).n ≤ maxLen) ∧ n' ≤ maxLen ∧ RowsAt a (blk a) (ofs a) m (rwAt w (blk a) (ofs a)) (rspotAt w (blk a) (ofs a)) w ∧ SumsAt a' (blk a') (ofs a') n' (sumsAt w (blk a') (ofs a')) w := by
  have hC : Try.prog.cellsOf 48 = 4 := by kernel_rfl
  have hc0' : Try.prog.cellsOf 3 = 1 := by kernel_rfl
  have hcC' : Try.prog.cellsOf 29 = 2 := by kernel_rfl
  have hc1' : Try.prog.cellsOf 26 = 1 := by kernel_rfl
  have hc2' : Try.prog.cellsOf 27 = 1 := by kernel_rfl
  obtain ⟨cs, rfl, hsz⟩ := okWide_struct Try.underlying48 hv
  obtain ⟨c0, c1, c2, c3, rfl⟩ : ∃ c0 c1 c2 c3, cs = #[c0, c1, c2, c3] := by
    obtain ⟨l⟩ := cs
    have := hsz.trans hC
    match l, this with
    | [c0, c1, c2, c3], _ => exact ⟨c0, c1, c2, c3, rfl⟩
  obtain ⟨fuel, hf⟩ := h
  obtain ⟨ys, q, _, _, _, hl', hf'⟩ := Go.DataW.trod_struct Try.underlying48 hf
  match ys, hl' with
  | [y0, y1, y2], _ =>
    have hy0 := hf' 0 _ rfl
    have hy1 := hf' 1 _ rfl
    have hy2 := hf' 2 _ rfl
    simp [hc0', hcC', Value.cells] at hy0 hy1 hy2
    obtain ⟨ph, e0, _, _⟩ := DataW.trod_int Try.underlying3 hy0
    obtain ⟨rd, e1, _, _⟩ := DataW.trod_int Try.underlying3 hy1
    obtain ⟨zs, q', _, _, _, hl2, hg⟩ := Go.DataW.trod_struct Try.underlying29 hy2
    match zs, hl2 with
    | [z0, z1], _ =>
      have hz0 := hg 0 _ rfl
      have hz1 := hg 1 _ rfl
      simp [hc1', hc2'] at hz0 hz1
      obtain ⟨a, m, cap, rfl, h1, h2, h3⟩ := open_rows hz0
      obtain ⟨a', n', cap', rfl, h4, h5⟩ := open_sums hz1
      simp at e0 e1
      subst e0 e1
      exact ⟨ph, rd, a, m, cap, a', n', cap', rfl, h1, h2, h4, h3, h5⟩
theorem place_in (n k : Int) : placeB n (k + 1) = inB n 0 k := by
  simp only [placeB, inB]; congr 1; simp; omega
theorem place_one (n : Int) : placeB n 1 = (n == 0) := by
  by_cases h : n = 0
  · subst h; rfl
  · have : (n == 0) = false := by simpa using h
    rw [this]; simp [placeB]; omega
theorem inSB (n x y : Int) (w : World) : Calls Try.prog 56 #[.int .i64 n, .int .i64 x, .int .i64 y] w fun e w' => e = .returned (.bool (inB n x y)) ∧ Below w.heap.size w w' :=
  (inS n x y w).mono fun _ _ ⟨h1, h2⟩ => ⟨h1, h2 ▸ Below.refl _ _⟩
/-- How many rounds a phase has. -/
def roundsB (ph : Int) : Int := if ph = 1 then 3 else if ph = 2 then 6 else if ph = 3 then 1 else 0
def engOk (k : Bool) (ph rd : Int) : Bool := k && placeB rd (roundsB ph)
theorem roundsI (ph : Int) (w : World) :
    Calls Try.prog 58 #[.int .i64 ph] w fun e w' => e = .returned (.int .i64 (roundsB ph)) ∧ Below w.heap.size w w' := by
  by_cases h1 : ph = 1
  · subst h1
    go_enter Try.func58, Try.ntmps58
    go_wp2
    go_ret
    exact ⟨rfl, Below.refl _ _⟩
  have g1 : (ph == 1) = false := by simpa using h1
  by_cases h2 : ph = 2
  · subst h2
    go_enter Try.func58, Try.ntmps58
    go_wp2
    go_ret
    exact ⟨rfl, Below.refl _ _⟩
  have g2 : (ph == 2) = false := by simpa using h2
  by_cases h3 : ph = 3
  · subst h3
    go_enter Try.func58, Try.ntmps58
    go_wp2
    go_ret
    exact ⟨rfl, Below.refl _ _⟩
  have g3 : (ph == 3) = false := by simpa using h3
  go_enter Try.func58, Try.ntmps58
  go_wp2
  go_ret
  exact ⟨by simp [roundsB, h1, h2, h3], Below.refl _ _⟩
theorem placeIB (n s : Int) (w : World) : Calls Try.prog 57 #[.int .i64 n, .int .i64 s] w fun e w' => e = .returned (.bool (placeB n s)) ∧ Below w.heap.size w w' :=
  (placeI n s w).mono fun _ _ ⟨h1, h2⟩ => ⟨h1, h2 ▸ Below.refl _ _⟩
set_option maxRecDepth 10000 in
set_option maxHeartbeats 8000000 in
theorem engOkS (a : Option Addr) (b off m cap : Nat) (P : Nat → Proc) (S : Nat → Spot) (a1 : Option Addr) (b1 off1 n cap1 : Nat) (z : Nat → Int) (a2 : Option Addr) (b2 off2 m2 cap2 : Nat) (R : Nat → Rw) (T : Nat → RSpot) (a3 : Option Addr) (b3 off3 n2 cap3 : Nat) (U : Nat → Sm) (ph rd : Int) (w : World) (hm : m ≤ 1048576) (hN : ∀ i, i < m → (P i).n ≤ 1048576) (hn : n ≤ 1048576) (hm2 : m2 ≤ 1048576) (hR2 : ∀ i, i < m2 → (R i).n ≤ 1048576 ∧ ∀ j, j < (R i).n → ((R i).x j).n ≤ 1048576) (hn2 : n2 ≤ 1048576) (hP : ProcsAt a b off m P S w) (hZ : IntsAt a1 b1 off1 n z w) (hR : RowsAt a2 b2 off2 m2 R T w) (hU : SumsAt a3 b3 off3 n2 U w) :
    Calls Try.prog 19 #[.agg #[.slice a m cap], .slice a1 n cap1, .agg #[.int .i64 ph, .int .i64 rd, .slice a2 m2 cap2, .slice a3 n2 cap3]] w fun e w' => e = .returned (.bool (engOk (crtOk P m n z m2 R n2 U) ph rd)) ∧ Below w.heap.size w w' := by
  have H : HeldL w [(w.heap.size + 1, [Value.int .i64 ph, .int .i64 rd, .slice a2 m2 cap2, .slice a3 n2 cap3]), (w.heap.size, [Value.slice a m cap])] ((w.alloc (.cells #[.slice a m cap] 35)).alloc (.cells #[.int .i64 ph, .int .i64 rd, .slice a2 m2 cap2, .slice a3 n2 cap3] 52)) := by
    have e1 : w.heap.size + 1 = (w.alloc (.cells #[.slice a m cap] 35)).heap.size := by simp
    rw [e1]
    exact HeldL.newL (vs := [Value.int .i64 ph, .int .i64 rd, .slice a2 m2 cap2, .slice a3 n2 cap3]) (HeldL.newL (vs := [Value.slice a m cap]) (HeldL.nil w))
  obtain ⟨Lb, hLb⟩ : ∃ L, L = [(w.heap.size + 1, [Value.int .i64 ph, .int .i64 rd, .slice a2 m2 cap2, .slice a3 n2 cap3]), (w.heap.size, [Value.slice a m cap])] := ⟨_, rfl⟩
  have mP : (w.heap.size, [Value.slice a m cap]) ∈ Lb := by rw [hLb]; simp
  have mE : (w.heap.size + 1, [Value.int .i64 ph, .int .i64 rd, .slice a2 m2 cap2, .slice a3 n2 cap3]) ∈ Lb := by rw [hLb]; simp
  rw [← hLb] at H
  clear hLb
  have c2 := H.cell mE (i := 2) rfl
  have c3 := H.cell mE (i := 3) rfl
  dsimp only at c2 c3
  go_enter Try.func19, Try.ntmps19
  go_wp2_with fail
  refine (crtOkS _ _ _ _ _ _ _ _ _ _ _ _ _ _ _ _ _ _ _ _ _ _ _ _ _ _ _ hm hN hn hm2 hR2 hn2 (hP.next H.below) (hZ.next H.below) (hR.next H.below) (hU.next H.below)).mono ?_
  rintro e w1 ⟨rfl, hb⟩
  replace H := H.next hb
  clear hb hP hZ hR hU hm hN hn hm2 hR2 hn2 c2 c3
  cases g : crtOk P m n z m2 R n2 U
  · go_wp2_with fail
    go_ret
    exact ⟨ret_bool (by simp [engOk, g]), H.below⟩
  have c0 := H.cell mE (i := 0) rfl
  have c1 := H.cell mE (i := 1) rfl
  dsimp only at c0 c1
  have gS : Hid (crtOk P m n z m2 R n2 U = true) := g
  clear g
  by_cases h1 : ph = 1
  · subst h1
    go_wp2_with fail
    refine (inSB _ _ _ _).mono ?_
    rintro e w2 ⟨rfl, hb⟩
    replace H := H.next hb
    go_wp2_with fail
    go_ret
    exact ⟨ret_bool (by simp only [engOk, roundsB]; rw [gS.out]; simp; exact (place_in rd _).symm), H.below⟩
  have g1 : (ph == 1) = false := by simpa using h1
  by_cases h2 : ph = 2
  · subst h2
    go_wp2_with fail
    refine (inSB _ _ _ _).mono ?_
    rintro e w2 ⟨rfl, hb⟩
    replace H := H.next hb
    go_wp2_with fail
    go_ret
    exact ⟨ret_bool (by simp only [engOk, roundsB]; rw [gS.out]; simp; exact (place_in rd _).symm), H.below⟩
  have g2 : (ph == 2) = false := by simpa using h2
  by_cases h3 : ph = 3
  · subst h3
    go_wp2_with fail
    go_ret
    exact ⟨ret_bool (by simp only [engOk, roundsB]; rw [gS.out]; simp; exact (place_one rd).symm), H.below⟩
  have g3 : (ph == 3) = false := by simpa using h3
  go_wp2_with fail
  go_ret
  exact ⟨ret_bool (by simp [engOk, roundsB, placeB, h1, h2, h3]), H.below⟩
set_option maxRecDepth 10000 in
set_option maxHeartbeats 8000000 in
theorem engOkI (a : Option Addr) (b off m cap : Nat) (P : Nat → Proc) (S : Nat → Spot) (a1 : Option Addr) (b1 off1 n cap1 : Nat) (z : Nat → Int) (a2 : Option Addr) (b2 off2 m2 cap2 : Nat) (R : Nat → Rw) (T : Nat → RSpot) (a3 : Option Addr) (b3 off3 n2 cap3 : Nat) (U : Nat → Sm) (ph rd : Int) (w : World) (hm : m ≤ 1048576) (hN : ∀ i, i < m → (P i).n ≤ 1048576) (hn : n ≤ 1048576) (hm2 : m2 ≤ 1048576) (hR2 : ∀ i, i < m2 → (R i).n ≤ 1048576 ∧ ∀ j, j < (R i).n → ((R i).x j).n ≤ 1048576) (hn2 : n2 ≤ 1048576) (hP : ProcsAt a b off m P S w) (hZ : IntsAt a1 b1 off1 n z w) (hR : RowsAt a2 b2 off2 m2 R T w) (hU : SumsAt a3 b3 off3 n2 U w) :
    Calls Try.prog 21 #[.agg #[.slice a m cap], .slice a1 n cap1, .agg #[.int .i64 ph, .int .i64 rd, .slice a2 m2 cap2, .slice a3 n2 cap3]] w fun e w' => e = .returned (.bool (engOk (crtOk P m n z m2 R n2 U) ph rd)) ∧ Below w.heap.size w w' := by
  have H : HeldL w [(w.heap.size + 1, [Value.int .i64 ph, .int .i64 rd, .slice a2 m2 cap2, .slice a3 n2 cap3]), (w.heap.size, [Value.slice a m cap])] ((w.alloc (.cells #[.slice a m cap] 35)).alloc (.cells #[.int .i64 ph, .int .i64 rd, .slice a2 m2 cap2, .slice a3 n2 cap3] 52)) := by
    have e1 : w.heap.size + 1 = (w.alloc (.cells #[.slice a m cap] 35)).heap.size := by simp
    rw [e1]
    exact HeldL.newL (vs := [Value.int .i64 ph, .int .i64 rd, .slice a2 m2 cap2, .slice a3 n2 cap3]) (HeldL.newL (vs := [Value.slice a m cap]) (HeldL.nil w))
  obtain ⟨Lb, hLb⟩ : ∃ L, L = [(w.heap.size + 1, [Value.int .i64 ph, .int .i64 rd, .slice a2 m2 cap2, .slice a3 n2 cap3]), (w.heap.size, [Value.slice a m cap])] := ⟨_, rfl⟩
  have mP : (w.heap.size, [Value.slice a m cap]) ∈ Lb := by rw [hLb]; simp
  have mE : (w.heap.size + 1, [Value.int .i64 ph, .int .i64 rd, .slice a2 m2 cap2, .slice a3 n2 cap3]) ∈ Lb := by rw [hLb]; simp
  rw [← hLb] at H
  clear hLb
  obtain ⟨V, hV⟩ : ∃ V, V = ((w.alloc (.cells #[.slice a m cap] 35)).alloc (.cells #[.int .i64 ph, .int .i64 rd, .slice a2 m2 cap2, .slice a3 n2 cap3] 52)) := ⟨_, rfl⟩
  rw [← hV] at H
  have hS0 : HX w V Lb V.drew := ⟨H.drew, (Below.refl _ V).drew⟩
  clear H
  obtain ⟨q, hq'⟩ : ∃ q, crtOk P m n z m2 R n2 U = q := ⟨_, rfl⟩
  have hq : Hid (crtOk P m n z m2 R n2 U = q) := hq'
  clear hq'
  cases g : placeB rd (roundsB ph)
  · replace g : Hid (placeB rd (roundsB ph) = false) := g
    go_enter Try.func21, Try.ntmps21
    go_wp2_with fail
    rw [← hV]
    clear hV
    refine region_inv3 [(0, 7), (1, 8), (2, 9), (3, 10), (4, 11), (5, 12), (6, 13), (7, 14), (8, 15), (9, 16), (10, 17), (11, 18), (12, 19), (13, 6)]
      (fun j v _ => match j with
        | 0 => Is (.pointer (some ⟨w.heap.size + 1, 1, none⟩)) v
        | 1 => Is (.int .i64 rd) v
        | 2 => Is (.pointer (some ⟨w.heap.size + 1, 0, none⟩)) v
        | 3 => Is (.int .i64 ph) v
        | 4 => Is (.int .i64 (roundsB ph)) v
        | 5 => Is (.bool false) v
        | 6 => Is (.bool false) v
        | 7 => Is (undef) v
        | 8 => Is (undef) v
        | 9 => Is (undef) v
        | 10 => Is (undef) v
        | 11 => Is (undef) v
        | 12 => Is (.bool false) v
        | 13 => Is (.bool false) v
        | _ => True)
      (fun _ W => HX w V Lb W) TT
      (by kernel_rfl) (by kernel_rfl) (by kernel_rfl) (by kernel_rfl) (by kernel_rfl) rfl hS0 (fun i j v W W' _ h _ => h) ?_ ?_
    · intro i L vals W hi' hφ hS hL hd
      have hi2 : i < 14 := hi'
      clear hi'
      rcases (show i = 0 ∨ i = 1 ∨ i = 2 ∨ i = 3 ∨ i = 4 ∨ i = 5 ∨ i = 6 ∨ i = 7 ∨ i = 8 ∨ i = 9 ∨ i = 10 ∨ i = 11 ∨ i = 12 ∨ i = 13 by omega) with rfl | rfl | rfl | rfl | rfl | rfl | rfl | rfl | rfl | rfl | rfl | rfl | rfl | rfl
      · refine wpAt_of rfl rfl ?_
        simp only [frOf, Act.put]
        go_wp2_with fail
        first | exact ⟨trivial, rfl, trivial, hS⟩ | exact ⟨rfl, trivial, hS⟩ | exact ⟨trivial, rfl, trivial⟩ | exact ⟨rfl, trivial⟩ | exact rfl
      · have k0 : vals 0 = .pointer (some ⟨w.heap.size + 1, 1, none⟩) := hφ 0 (hd 0 (by decide))
        have c1 := hS.cell mE (i := 1) rfl
        dsimp only at c1
        refine wpAt_of rfl rfl ?_
        simp only [frOf, Act.put]
        go_wp2_with fail
        first | exact ⟨trivial, rfl, trivial, hS⟩ | exact ⟨rfl, trivial, hS⟩ | exact ⟨trivial, rfl, trivial⟩ | exact ⟨rfl, trivial⟩ | exact rfl
      · refine wpAt_of rfl rfl ?_
        simp only [frOf, Act.put]
        go_wp2_with fail
        first | exact ⟨trivial, rfl, trivial, hS⟩ | exact ⟨rfl, trivial, hS⟩ | exact ⟨trivial, rfl, trivial⟩ | exact ⟨rfl, trivial⟩ | exact rfl
      · have k2 : vals 2 = .pointer (some ⟨w.heap.size + 1, 0, none⟩) := hφ 2 (hd 2 (by decide))
        have c0 := hS.cell mE (i := 0) rfl
        dsimp only at c0
        refine wpAt_of rfl rfl ?_
        simp only [frOf, Act.put]
        go_wp2_with fail
        first | exact ⟨trivial, rfl, trivial, hS⟩ | exact ⟨rfl, trivial, hS⟩ | exact ⟨trivial, rfl, trivial⟩ | exact ⟨rfl, trivial⟩ | exact rfl
      · have k3 : vals 3 = .int .i64 ph := hφ 3 (hd 3 (by decide))
        refine wpAt_of rfl rfl ?_
        simp only [frOf, Act.put]
        go_wp2_with fail
        refine (roundsI _ _).mono ?_
        rintro e W' ⟨rfl, hb⟩
        go_wp2_with fail
        first | exact ⟨trivial, rfl, trivial, HX.next hb hS⟩ | exact ⟨rfl, trivial, HX.next hb hS⟩ | exact ⟨trivial, rfl, trivial⟩ | exact ⟨rfl, trivial⟩ | exact rfl
      · have k1 : vals 1 = .int .i64 rd := hφ 1 (hd 1 (by decide))
        have k4 : vals 4 = .int .i64 (roundsB ph) := hφ 4 (hd 4 (by decide))
        refine wpAt_of rfl rfl ?_
        simp only [frOf, Act.put]
        go_wp2_with fail
        refine (placeIB _ _ _).mono ?_
        rintro e W' ⟨rfl, hb⟩
        rw [g.out]
        go_wp2_with fail
        first | exact ⟨trivial, rfl, trivial, HX.next hb hS⟩ | exact ⟨rfl, trivial, HX.next hb hS⟩ | exact ⟨trivial, rfl, trivial⟩ | exact ⟨rfl, trivial⟩ | exact rfl
      · have k5 : vals 5 = .bool false := hφ 5 (hd 5 (by decide))
        refine wpAt_of rfl rfl ?_
        simp only [frOf, Act.put]
        go_wp2_with fail
        first | exact ⟨trivial, rfl, trivial, hS⟩ | exact ⟨rfl, trivial, hS⟩ | exact ⟨trivial, rfl, trivial⟩ | exact ⟨rfl, trivial⟩ | exact rfl
      · have k6 : vals 6 = .bool false := hφ 6 (hd 6 (by decide))
        simp only [wpAt, List.getElem?_toArray, List.getElem?_cons_succ, List.getElem?_cons_zero, slotOf, frOf, Act.put]
        go_wp2_with fail
        first | exact ⟨trivial, rfl, trivial, hS⟩ | exact ⟨rfl, trivial, hS⟩ | exact ⟨trivial, rfl, trivial⟩ | exact ⟨rfl, trivial⟩ | exact rfl
      · have k6 : vals 6 = .bool false := hφ 6 (hd 6 (by decide))
        simp only [wpAt, List.getElem?_toArray, List.getElem?_cons_succ, List.getElem?_cons_zero, slotOf, frOf, Act.put]
        go_wp2_with fail
        first | exact ⟨trivial, rfl, trivial, hS⟩ | exact ⟨rfl, trivial, hS⟩ | exact ⟨trivial, rfl, trivial⟩ | exact ⟨rfl, trivial⟩ | exact rfl
      · have k6 : vals 6 = .bool false := hφ 6 (hd 6 (by decide))
        simp only [wpAt, List.getElem?_toArray, List.getElem?_cons_succ, List.getElem?_cons_zero, slotOf, frOf, Act.put]
        go_wp2_with fail
        first | exact ⟨trivial, rfl, trivial, hS⟩ | exact ⟨rfl, trivial, hS⟩ | exact ⟨trivial, rfl, trivial⟩ | exact ⟨rfl, trivial⟩ | exact rfl
      · have k6 : vals 6 = .bool false := hφ 6 (hd 6 (by decide))
        have k9 : vals 9 = undef := hφ 9 (hd 9 (by decide))
        simp only [wpAt, List.getElem?_toArray, List.getElem?_cons_succ, List.getElem?_cons_zero, slotOf, frOf, Act.put]
        go_wp2_with fail
        first | exact ⟨trivial, rfl, trivial, hS⟩ | exact ⟨rfl, trivial, hS⟩ | exact ⟨trivial, rfl, trivial⟩ | exact ⟨rfl, trivial⟩ | exact rfl
      · have k6 : vals 6 = .bool false := hφ 6 (hd 6 (by decide))
        have k7 : vals 7 = undef := hφ 7 (hd 7 (by decide))
        have k8 : vals 8 = undef := hφ 8 (hd 8 (by decide))
        have k10 : vals 10 = undef := hφ 10 (hd 10 (by decide))
        simp only [wpAt, List.getElem?_toArray, List.getElem?_cons_succ, List.getElem?_cons_zero, slotOf, frOf, Act.put]
        go_wp2_with fail
        first | exact ⟨trivial, rfl, trivial, hS⟩ | exact ⟨rfl, trivial, hS⟩ | exact ⟨trivial, rfl, trivial⟩ | exact ⟨rfl, trivial⟩ | exact rfl
      · have k6 : vals 6 = .bool false := hφ 6 (hd 6 (by decide))
        have k11 : vals 11 = undef := hφ 11 (hd 11 (by decide))
        refine wpAt_of rfl rfl ?_
        simp only [frOf, Act.put]
        go_wp2_with fail
        first | exact ⟨trivial, rfl, trivial, hS⟩ | exact ⟨rfl, trivial, hS⟩ | exact ⟨trivial, rfl, trivial⟩ | exact ⟨rfl, trivial⟩ | exact rfl
      · have k12 : vals 12 = .bool false := hφ 12 (hd 12 (by decide))
        refine wpAt_of rfl rfl ?_
        simp only [frOf, Act.put]
        go_wp2_with fail
        first | exact ⟨trivial, rfl, trivial, hS⟩ | exact ⟨rfl, trivial, hS⟩ | exact ⟨trivial, rfl, trivial⟩ | exact ⟨rfl, trivial⟩ | exact rfl
    · intro L vals W hall hφ hS
      have k0 : vals 0 = .pointer (some ⟨w.heap.size + 1, 1, none⟩) := hφ 0 (by decide)
      have k1 : vals 1 = .int .i64 rd := hφ 1 (by decide)
      have k2 : vals 2 = .pointer (some ⟨w.heap.size + 1, 0, none⟩) := hφ 2 (by decide)
      have k3 : vals 3 = .int .i64 ph := hφ 3 (by decide)
      have k4 : vals 4 = .int .i64 (roundsB ph) := hφ 4 (by decide)
      have k5 : vals 5 = .bool false := hφ 5 (by decide)
      have k6 : vals 6 = .bool false := hφ 6 (by decide)
      have k7 : vals 7 = undef := hφ 7 (by decide)
      have k8 : vals 8 = undef := hφ 8 (by decide)
      have k9 : vals 9 = undef := hφ 9 (by decide)
      have k10 : vals 10 = undef := hφ 10 (by decide)
      have k11 : vals 11 = undef := hφ 11 (by decide)
      have k12 : vals 12 = .bool false := hφ 12 (by decide)
      have k13 : vals 13 = .bool false := hφ 13 (by decide)
      simp only [frOf, Act.put, List.setIfInBounds_toArray, List.set_cons_succ, List.set_cons_zero, k0, k1, k2, k3, k4, k5, k6, k7, k8, k9, k10, k11, k12, k13]
      clear k0 k1 k2 k3 k4 k5 k6 k7 k8 k9 k10 k11 k12 k13 hall hφ hS0
      have H := hS.1
      go_wp2_with fail
      go_ret
      exact ⟨ret_bool (by simp only [engOk, g.out]; simp), H.below⟩
  · replace g : Hid (placeB rd (roundsB ph) = true) := g
    go_enter Try.func21, Try.ntmps21
    go_wp2_with fail
    rw [← hV]
    clear hV
    refine region_inv3 [(0, 7), (1, 8), (2, 9), (3, 10), (4, 11), (5, 12), (6, 13), (7, 14), (8, 15), (9, 16), (10, 17), (11, 18), (12, 19), (13, 6)]
      (fun j v _ => match j with
        | 0 => Is (.pointer (some ⟨w.heap.size + 1, 1, none⟩)) v
        | 1 => Is (.int .i64 rd) v
        | 2 => Is (.pointer (some ⟨w.heap.size + 1, 0, none⟩)) v
        | 3 => Is (.int .i64 ph) v
        | 4 => Is (.int .i64 (roundsB ph)) v
        | 5 => Is (.bool true) v
        | 6 => Is (.bool true) v
        | 7 => Is (.agg #[.slice a m cap]) v
        | 8 => Is (.slice a1 n cap1) v
        | 9 => Is (.pointer (some ⟨w.heap.size + 1, 2, none⟩)) v
        | 10 => Is (.agg #[.slice a2 m2 cap2, .slice a3 n2 cap3]) v
        | 11 => Is (.bool q) v
        | 12 => Is (.bool q) v
        | 13 => Is (.bool q) v
        | _ => True)
      (fun _ W => HX w V Lb W) TT
      (by kernel_rfl) (by kernel_rfl) (by kernel_rfl) (by kernel_rfl) (by kernel_rfl) rfl hS0 (fun i j v W W' _ h _ => h) ?_ ?_
    · intro i L vals W hi' hφ hS hL hd
      have hi2 : i < 14 := hi'
      clear hi'
      rcases (show i = 0 ∨ i = 1 ∨ i = 2 ∨ i = 3 ∨ i = 4 ∨ i = 5 ∨ i = 6 ∨ i = 7 ∨ i = 8 ∨ i = 9 ∨ i = 10 ∨ i = 11 ∨ i = 12 ∨ i = 13 by omega) with rfl | rfl | rfl | rfl | rfl | rfl | rfl | rfl | rfl | rfl | rfl | rfl | rfl | rfl
      · refine wpAt_of rfl rfl ?_
        simp only [frOf, Act.put]
        go_wp2_with fail
        first | exact ⟨trivial, rfl, trivial, hS⟩ | exact ⟨rfl, trivial, hS⟩ | exact ⟨trivial, rfl, trivial⟩ | exact ⟨rfl, trivial⟩ | exact rfl
      · have k0 : vals 0 = .pointer (some ⟨w.heap.size + 1, 1, none⟩) := hφ 0 (hd 0 (by decide))
        have c1 := hS.cell mE (i := 1) rfl
        dsimp only at c1
        refine wpAt_of rfl rfl ?_
        simp only [frOf, Act.put]
        go_wp2_with fail
        first | exact ⟨trivial, rfl, trivial, hS⟩ | exact ⟨rfl, trivial, hS⟩ | exact ⟨trivial, rfl, trivial⟩ | exact ⟨rfl, trivial⟩ | exact rfl
      · refine wpAt_of rfl rfl ?_
        simp only [frOf, Act.put]
        go_wp2_with fail
        first | exact ⟨trivial, rfl, trivial, hS⟩ | exact ⟨rfl, trivial, hS⟩ | exact ⟨trivial, rfl, trivial⟩ | exact ⟨rfl, trivial⟩ | exact rfl
      · have k2 : vals 2 = .pointer (some ⟨w.heap.size + 1, 0, none⟩) := hφ 2 (hd 2 (by decide))
        have c0 := hS.cell mE (i := 0) rfl
        dsimp only at c0
        refine wpAt_of rfl rfl ?_
        simp only [frOf, Act.put]
        go_wp2_with fail
        first | exact ⟨trivial, rfl, trivial, hS⟩ | exact ⟨rfl, trivial, hS⟩ | exact ⟨trivial, rfl, trivial⟩ | exact ⟨rfl, trivial⟩ | exact rfl
      · have k3 : vals 3 = .int .i64 ph := hφ 3 (hd 3 (by decide))
        refine wpAt_of rfl rfl ?_
        simp only [frOf, Act.put]
        go_wp2_with fail
        refine (roundsI _ _).mono ?_
        rintro e W' ⟨rfl, hb⟩
        go_wp2_with fail
        first | exact ⟨trivial, rfl, trivial, HX.next hb hS⟩ | exact ⟨rfl, trivial, HX.next hb hS⟩ | exact ⟨trivial, rfl, trivial⟩ | exact ⟨rfl, trivial⟩ | exact rfl
      · have k1 : vals 1 = .int .i64 rd := hφ 1 (hd 1 (by decide))
        have k4 : vals 4 = .int .i64 (roundsB ph) := hφ 4 (hd 4 (by decide))
        refine wpAt_of rfl rfl ?_
        simp only [frOf, Act.put]
        go_wp2_with fail
        refine (placeIB _ _ _).mono ?_
        rintro e W' ⟨rfl, hb⟩
        rw [g.out]
        go_wp2_with fail
        first | exact ⟨trivial, rfl, trivial, HX.next hb hS⟩ | exact ⟨rfl, trivial, HX.next hb hS⟩ | exact ⟨trivial, rfl, trivial⟩ | exact ⟨rfl, trivial⟩ | exact rfl
      · have k5 : vals 5 = .bool true := hφ 5 (hd 5 (by decide))
        refine wpAt_of rfl rfl ?_
        simp only [frOf, Act.put]
        go_wp2_with fail
        first | exact ⟨trivial, rfl, trivial, hS⟩ | exact ⟨rfl, trivial, hS⟩ | exact ⟨trivial, rfl, trivial⟩ | exact ⟨rfl, trivial⟩ | exact rfl
      · have k6 : vals 6 = .bool true := hφ 6 (hd 6 (by decide))
        have y0 := hS.cell mP (i := 0) rfl
        dsimp only at y0
        simp only [wpAt, List.getElem?_toArray, List.getElem?_cons_succ, List.getElem?_cons_zero, slotOf, frOf, Act.put]
        go_wp2_with fail
        first | exact ⟨trivial, rfl, trivial, hS⟩ | exact ⟨rfl, trivial, hS⟩ | exact ⟨trivial, rfl, trivial⟩ | exact ⟨rfl, trivial⟩ | exact rfl
      · have k6 : vals 6 = .bool true := hφ 6 (hd 6 (by decide))
        simp only [wpAt, List.getElem?_toArray, List.getElem?_cons_succ, List.getElem?_cons_zero, slotOf, frOf, Act.put]
        go_wp2_with fail
        first | exact ⟨trivial, rfl, trivial, hS⟩ | exact ⟨rfl, trivial, hS⟩ | exact ⟨trivial, rfl, trivial⟩ | exact ⟨rfl, trivial⟩ | exact rfl
      · have k6 : vals 6 = .bool true := hφ 6 (hd 6 (by decide))
        simp only [wpAt, List.getElem?_toArray, List.getElem?_cons_succ, List.getElem?_cons_zero, slotOf, frOf, Act.put]
        go_wp2_with fail
        first | exact ⟨trivial, rfl, trivial, hS⟩ | exact ⟨rfl, trivial, hS⟩ | exact ⟨trivial, rfl, trivial⟩ | exact ⟨rfl, trivial⟩ | exact rfl
      · have k6 : vals 6 = .bool true := hφ 6 (hd 6 (by decide))
        have k9 : vals 9 = .pointer (some ⟨w.heap.size + 1, 2, none⟩) := hφ 9 (hd 9 (by decide))
        have c2 := hS.cell mE (i := 2) rfl
        have c3 := hS.cell mE (i := 3) rfl
        dsimp only at c2 c3
        simp only [wpAt, List.getElem?_toArray, List.getElem?_cons_succ, List.getElem?_cons_zero, slotOf, frOf, Act.put]
        go_wp2_with fail
        first | exact ⟨trivial, rfl, trivial, hS⟩ | exact ⟨rfl, trivial, hS⟩ | exact ⟨trivial, rfl, trivial⟩ | exact ⟨rfl, trivial⟩ | exact rfl
      · have k6 : vals 6 = .bool true := hφ 6 (hd 6 (by decide))
        have k7 : vals 7 = .agg #[.slice a m cap] := hφ 7 (hd 7 (by decide))
        have k8 : vals 8 = .slice a1 n cap1 := hφ 8 (hd 8 (by decide))
        have k10 : vals 10 = .agg #[.slice a2 m2 cap2, .slice a3 n2 cap3] := hφ 10 (hd 10 (by decide))
        simp only [wpAt, List.getElem?_toArray, List.getElem?_cons_succ, List.getElem?_cons_zero, slotOf, frOf, Act.put]
        go_wp2_with fail
        refine (crtOkI _ _ _ _ _ _ _ _ _ _ _ _ _ _ _ _ _ _ _ _ _ _ _ _ _ _ _ hm hN hn hm2 hR2 hn2 (hP.next hS.below) (hZ.next hS.below) (hR.next hS.below) (hU.next hS.below)).mono ?_
        rintro e W' ⟨rfl, hb⟩
        rw [hq.out]
        go_wp2_with fail
        first | exact ⟨trivial, rfl, trivial, HX.next hb hS⟩ | exact ⟨rfl, trivial, HX.next hb hS⟩ | exact ⟨trivial, rfl, trivial⟩ | exact ⟨rfl, trivial⟩ | exact rfl
      · have k6 : vals 6 = .bool true := hφ 6 (hd 6 (by decide))
        have k11 : vals 11 = .bool q := hφ 11 (hd 11 (by decide))
        refine wpAt_of rfl rfl ?_
        simp only [frOf, Act.put]
        go_wp2_with fail
        first | exact ⟨trivial, rfl, trivial, hS⟩ | exact ⟨rfl, trivial, hS⟩ | exact ⟨trivial, rfl, trivial⟩ | exact ⟨rfl, trivial⟩ | exact rfl
      · have k12 : vals 12 = .bool q := hφ 12 (hd 12 (by decide))
        refine wpAt_of rfl rfl ?_
        simp only [frOf, Act.put]
        go_wp2_with fail
        first | exact ⟨trivial, rfl, trivial, hS⟩ | exact ⟨rfl, trivial, hS⟩ | exact ⟨trivial, rfl, trivial⟩ | exact ⟨rfl, trivial⟩ | exact rfl
    · intro L vals W hall hφ hS
      have k0 : vals 0 = .pointer (some ⟨w.heap.size + 1, 1, none⟩) := hφ 0 (by decide)
      have k1 : vals 1 = .int .i64 rd := hφ 1 (by decide)
      have k2 : vals 2 = .pointer (some ⟨w.heap.size + 1, 0, none⟩) := hφ 2 (by decide)
      have k3 : vals 3 = .int .i64 ph := hφ 3 (by decide)
      have k4 : vals 4 = .int .i64 (roundsB ph) := hφ 4 (by decide)
      have k5 : vals 5 = .bool true := hφ 5 (by decide)
      have k6 : vals 6 = .bool true := hφ 6 (by decide)
      have k7 : vals 7 = .agg #[.slice a m cap] := hφ 7 (by decide)
      have k8 : vals 8 = .slice a1 n cap1 := hφ 8 (by decide)
      have k9 : vals 9 = .pointer (some ⟨w.heap.size + 1, 2, none⟩) := hφ 9 (by decide)
      have k10 : vals 10 = .agg #[.slice a2 m2 cap2, .slice a3 n2 cap3] := hφ 10 (by decide)
      have k11 : vals 11 = .bool q := hφ 11 (by decide)
      have k12 : vals 12 = .bool q := hφ 12 (by decide)
      have k13 : vals 13 = .bool q := hφ 13 (by decide)
      simp only [frOf, Act.put, List.setIfInBounds_toArray, List.set_cons_succ, List.set_cons_zero, k0, k1, k2, k3, k4, k5, k6, k7, k8, k9, k10, k11, k12, k13]
      clear k0 k1 k2 k3 k4 k5 k6 k7 k8 k9 k10 k11 k12 k13 hall hφ hS0
      have H := hS.1
      go_wp2_with fail
      go_ret
      exact ⟨ret_bool (by simp only [engOk, g.out]; rw [hq.out]; simp), H.below⟩
end Go.Proofs.Ytdpkbbbfnmneiaa
