/- Whatever program is handed in, and whatever numbers, the law FnExactRunNew returns true: the program's RunNew answers as the model's, its run is its own, behind another call too, and it turns nothing of its argument. No condition. Of programs of more than 1048576 entries the law itself answers true. -/
import Derived.Test.YtndedplmcjfgeaaOpenPrg
import Derived.Test.YtndedplmcjfgeaaPrgAtI
import Derived.Test.YtndedplmcjfgeaaMarks
import Derived.Test.YtndedplmcjfgeaaRunIs
import Derived.Test.YtndedplmcjfgeaaRunNewS
import Derived.Test.YtndedplmcjfgeaaRunNewI
import Derived.Deep.RegionHeld3
import Derived.Deep.DeepCutAuto
import Derived.WalkKit
import Derived.ProofKit
import Derived.OpenShut
import Derived.ShutString
import Derived.ChangeOld
import Derived.Below
namespace Go.Proofs.Ytndedplmcjfgeaa.fnExactRunNew
open Go.ChangeShapes Go.WideShapes Go.ChangeAt Go.RowKit
open Go.ChangeMaps (open_string shut_string)
set_option linter.unusedVariables false

theorem own : ownKnob Try.prog.godebug = none := by kernel_rfl
theorem laidOut : laidOutB Try.prog = true := by kernel_rfl


set_option maxRecDepth 10000 in
set_option maxHeartbeats 8000000 in
theorem walk (a0 : Option Addr) (m0 cap0 b0 off0 : Nat) (P0 : Nat → Proc) (S0 : Nat → Spot) (hm0 : m0 ≤ maxLen) (hn0 : ∀ i, i < m0 → (P0 i).n ≤ maxLen) (a1 : Int) (w1 : (Lit.int .i64 a1).wf = true) (a2 : Int) (w2 : (Lit.int .i64 a2).wf = true) (w : World) (r0 : ProcsAt a0 b0 off0 m0 P0 S0 w) :
    Calls Try.prog 8 #[.agg #[.slice a0 m0 cap0], .int .i64 a1, .int .i64 a2] w fun e w' => e = .returned (.bool true) ∧ Below w.heap.size w w' := by
  obtain ⟨st, hst⟩ : ∃ x, newSt P0 m0 a1 a2 = x := ⟨_, rfl⟩
  obtain ⟨qq, hqq⟩ : ∃ x, newQ P0 m0 a1 a2 = x := ⟨_, rfl⟩
  obtain ⟨FF, hF⟩ : ∃ x : Nat → Frm, x = fun _ => EnterF a1 a2 := ⟨_, rfl⟩
  have hq4 : qq ≤ 1000 := by rw [← hqq]; unfold newQ; split <;> omega
  have h4 : ∀ i, i < qq → (FF i).nv = 4 ∧ (FF i).nc = 4 := by subst hF; exact fun i hi => ⟨rfl, rfl⟩
  have hstS : Hid (newSt P0 m0 a1 a2 = st) := hst
  have hqqS : Hid (newQ P0 m0 a1 a2 = qq) := hqq
  have hFS : Hid (FF = fun _ => EnterF a1 a2) := hF
  clear hst hqq hF
  have bb0 : Below w.heap.size w (w.alloc (.cells #[.slice a0 m0 cap0] 24)) := (Below.refl w.heap.size w).alloc (Nat.le_refl _) _
  have kY0 : Box w.heap.size [Value.slice a0 m0 cap0] (w.alloc (.cells #[.slice a0 m0 cap0] 24)) := Box.new w [Value.slice a0 m0 cap0] _
  have p0 := r0.next bb0
  go_enter Try.func8, Try.ntmps8
  go_wp2_with fail
  refine (szPrg _ _ _ _ _ _ _ _ hm0 p0 hn0).mono ?_
  rintro e w1 ⟨q, rfl, hq, h1⟩
  have p1 := p0.next h1
  have b1 := below_tr bb0 h1
  rcases hq with rfl | ⟨hsz, hq0⟩
  · clear p0 p1 hn0 r0
    go_wp2_with fail
    go_ret
    exact ⟨rfl, b1⟩
  have hm : m0 ≤ 1048576 := by omega
  have hs1 : sizeTo P0 m0 ≤ 1048576 := by omega
  have hnn : ∀ i, i < m0 → (P0 i).n ≤ 1048576 := fun i hi => by have := sizeTo_le (P := P0) hi; omega
  have hq' : ¬ q < 0 := by omega
  have kY1 := kY0.next h1
  have yc := kY1.2 0 _ rfl
  go_wp2_with fail
  refine (toPrg _ _ _ _ _ _ _ _ hm hnn p1).mono ?_
  rintro e w2 ⟨g2, R2, rfl, g2a, g2b, P2, _, _, h2⟩
  clear yc
  go_wp2_with fail
  refine (runNewS _ _ _ _ _ _ _ _ _ _ hm hnn P2).mono ?_
  rintro e w3' ⟨v, rfl, hMw, h3'⟩
  rw [hstS.out, hqqS.out, ← hFS.out] at hMw
  obtain ⟨aw, gw, Sw, rfl, hw1, hw2⟩ := hMw
  have hMw : RunIs w2.heap.size st 0 0 0 qq FF (.agg #[.int .i64 st, .slice aw qq qq, .int .i64 0, .int .i64 0, .int .i64 0]) w3' := ⟨aw, gw, Sw, rfl, hw1, hw2⟩
  clear hw1 hw2
  have h3 := h3'.alloc h3'.size (.cells #[.int .i64 st, .slice aw qq qq, .int .i64 0, .int .i64 0, .int .i64 0] 47)
  have hw3 : RunIs w2.heap.size st 0 0 0 qq FF (.agg #[.int .i64 st, .slice aw qq qq, .int .i64 0, .int .i64 0, .int .i64 0]) (w3'.alloc (.cells #[.int .i64 st, .slice aw qq qq, .int .i64 0, .int .i64 0, .int .i64 0] 47)) := hMw.next ((Below.refl _ _).alloc (Nat.le_refl _) _)
  have kW3 : Box w3'.heap.size [Value.int .i64 st, .slice aw qq qq, .int .i64 0, .int .i64 0, .int .i64 0] (w3'.alloc (.cells #[.int .i64 st, .slice aw qq qq, .int .i64 0, .int .i64 0, .int .i64 0] 47)) := Box.new w3' [Value.int .i64 st, .slice aw qq qq, .int .i64 0, .int .i64 0, .int .i64 0] _
  have h13 := below_tr h2 h3
  have b3 := below_tr b1 h13
  have kY3 := kY1.next h13
  have p3 := p1.next h13
  have yc := kY3.2 0 _ rfl
  obtain ⟨BW, hBW⟩ : ∃ x, x = w3'.heap.size := ⟨_, rfl⟩
  rw [← hBW] at kW3
  have sY : w.heap.size < BW := by have := (kY1.next (below_tr h2 h3')).1; omega
  clear hMw h3' h3 h2
  have hBWS : Hid (BW = w3'.heap.size) := hBW
  clear hBW kY0 kY1 h1 p0 p1 b1 bb0 P2
  go_wp2_with fail
  rw [← hBWS.out]
  generalize w3'.alloc (.cells #[.int .i64 st, .slice aw qq qq, .int .i64 0, .int .i64 0, .int .i64 0] 47) = w3 at *
  refine (toPrg _ _ _ _ _ _ _ _ hm hnn p3).mono ?_
  rintro e w4 ⟨g4, R4, rfl, g4a, g4b, P4, F4, C4', h4⟩
  have b4 := below_tr b3 h4
  have kW4 := kW3.next h4
  have kY4 := kY3.next h4
  have hw4 := hw3.next h4
  have sBW : BW < g4 := Nat.lt_of_lt_of_le kW3.1 g4a
  have k5 : Below w4.heap.size w4 (w4.alloc (.cells #[.slice (some ⟨g4, 0, none⟩) m0 m0] 29)) := (Below.refl _ _).alloc (Nat.le_refl _) _
  have P5 := P4.next k5
  have kX5 : Box w4.heap.size [Value.slice (some ⟨g4, 0, none⟩) m0 m0] (w4.alloc (.cells #[.slice (some ⟨g4, 0, none⟩) m0 m0] 29)) := Box.new w4 [Value.slice (some ⟨g4, 0, none⟩) m0 m0] _
  clear yc
  go_wp2_with fail
  refine (runNewI _ _ _ _ _ _ _ _ _ _ hm hnn P5).mono ?_
  rintro e w6 ⟨v, rfl, hMg, h6⟩
  rw [hstS.out, hqqS.out, ← hFS.out] at hMg
  obtain ⟨ag, gg, Sg, rfl, hg1, hg2⟩ := hMg
  have hMg : RunIs (w4.alloc (.cells #[.slice (some ⟨g4, 0, none⟩) m0 m0] 29)).heap.size st 0 0 0 qq FF (.agg #[.int .i64 st, .slice ag qq qq, .int .i64 0, .int .i64 0, .int .i64 0]) w6 := ⟨ag, gg, Sg, rfl, hg1, hg2⟩
  have hg6 := (hMg.base (C := w4.heap.size) (by simp)).bound
  clear hg1 hg2 hMg
  have h67 : Below w6.heap.size w6 (w6.alloc (.cells #[.int .i64 st, .slice ag qq qq, .int .i64 0, .int .i64 0, .int .i64 0] 47)) := (Below.refl _ _).alloc (Nat.le_refl _) _
  have h57 := below_tr h6 h67
  have h47 := below_tr k5 h57
  have b7 := below_tr b4 h47
  have kG7 : Box w6.heap.size [Value.int .i64 st, .slice ag qq qq, .int .i64 0, .int .i64 0, .int .i64 0] (w6.alloc (.cells #[.int .i64 st, .slice ag qq qq, .int .i64 0, .int .i64 0, .int .i64 0] 47)) := Box.new w6 [Value.int .i64 st, .slice ag qq qq, .int .i64 0, .int .i64 0, .int .i64 0] _
  have kX7 := kX5.next h57
  have kW7 := kW4.next h47
  have kY7 := kY4.next h47
  have hw7 := hw4.next h47
  have hg7 := hg6.next h67
  have P7 := P4.next h47
  have F7 := F4.next h47
  have hN4 : g4 < w4.heap.size ∧ ∀ i, i < m0 → (R4 i).b < w4.heap.size := ⟨F4.lt, F4.lcode⟩
  have sX6 : w4.heap.size < w6.heap.size := (kX5.next h6).1
  have c7 := below_tr h4 h47
  clear kX5 kW4 kY4 kW3 kY3 hw4 P4 F4 P5 p3 h4 h6 k5 h13 hn0 h57 h67 h47 hg6 b4 b3
  have gc0 := kG7.2 0 _ rfl
  have gc1 := kG7.2 1 _ rfl
  have gc2 := kG7.2 2 _ rfl
  have gc3 := kG7.2 3 _ rfl
  have gc4 := kG7.2 4 _ rfl
  have wc0 := kW7.2 0 _ rfl
  have wc1 := kW7.2 1 _ rfl
  have wc2 := kW7.2 2 _ rfl
  have wc3 := kW7.2 3 _ rfl
  have wc4 := kW7.2 4 _ rfl

  have lG := kG7.1
  have lW := kW7.1
  go_wp2_with fail
  refine (eqRunG _ hq4 h4 hg7.is hw7).mono ?_
  rintro e w8 ⟨rfl, h8⟩
  have kG8 := kG7.next h8
  have kX8 := kX7.next h8
  have kW8 := kW7.next h8
  have kY8 := kY7.next h8
  have hg8 := hg7.next h8
  have P8 := P7.next h8
  have F8 := F7.next h8
  have b8 := below_tr b7 h8
  have c8 := below_tr c7 h8
  have r8 := r0.next b8
  clear kG7 kX7 kW7 kY7 hg7 hw7 P7 F7 b7 c7 h8 gc0 gc1 gc2 gc3 gc4 wc0 wc1 wc2 wc3 wc4 lG lW
  go_wp2_with fail
  obtain ⟨X, hX⟩ : ∃ x, x = w4.heap.size := ⟨_, rfl⟩
  obtain ⟨BG, hBG⟩ : ∃ x, x = w6.heap.size := ⟨_, rfl⟩
  obtain ⟨Y, hY⟩ : ∃ x, x = w.heap.size := ⟨_, rfl⟩
  rw [← hX] at kX8 hg8 hN4 sX6
  rw [← hBG] at kG8 hg8 sX6
  rw [← hY] at kY8 sY
  have hXS : Hid (X = w4.heap.size) := hX
  have hBGS : Hid (BG = w6.heap.size) := hBG
  have hYS : Hid (Y = w.heap.size) := hY
  rw [← hX, ← hBG, ← hY]
  clear hX hBG hY
  have xX := kX8.1
  have xY := kY8.1
  have cX := kX8.2 0 _ rfl
  have cY := kY8.2 0 _ rfl
  have g4a' : w3.heap.size ≤ g4 := g4a
  go_region_held3 (fun W => W.cell? ⟨X, 0, none⟩ = some (.slice (some ⟨g4, 0, none⟩) m0 m0) ∧ W.cell? ⟨Y, 0, none⟩ = some (.slice a0 m0 cap0) ∧ Below w8.heap.size w8 W) (first | exact KB.of ⟨xX, cX⟩ ⟨xY, cY⟩ (Below.refl _ w8).drew | exact KB.of ⟨xX, cX⟩ ⟨xY, cY⟩ hH | exact KB.of ⟨xX, cX⟩ ⟨xY, cY⟩ hH2 | go_keep) (first | (go_at_call 12; refine (toPrg _ _ _ _ _ _ _ _ hm hnn (r8.next (KB.held (by assumption)))).mono ?_; rintro e wa ⟨g7, R7, rfl, g7a, g7b, Pa, _, C7, ha⟩; have hH := below_tr (KB.held (by assumption)) ha) | (go_at_call 14; refine (eqPrg _ _ _ _ _ _ _ hm hnn ⟨Nat.lt_of_lt_of_le F8.lt hH.size, g7b⟩ (P8.next hH) Pa C4' C7).mono ?_; rintro e w9 ⟨rfl, h9⟩; have hH2 := below_tr hH h9))
  have kG9 := kG8.next hH2
  have kX9 := kX8.next hH2
  have kW9 := kW8.next hH2
  have kY9 := kY8.next hH2
  have hg9 := hg8.next hH2
  have P9 := P8.next hH2
  have F9 := F8.next hH2
  have b9 := below_tr b8 hH2
  have c9 := c8.trans (hH2.mono c8.size)
  clear kG8 kX8 kW8 kY8 hg8 P8 F8 b8 c8 r8 xX xY cX cY hH2 hH Pa ha h9 C7 g7a g7b
  have xc := kX9.2 0 _ rfl

  go_wp2_with fail
  refine (markPrg _ _ _ _ _ hm hs1 X hN4 P9 F9 C4').mono ?_
  rintro e w10 ⟨k, rfl, hk, hT⟩
  have hk' : ¬ k < 0 := by omega
  have s9 := b9.size
  have s39 := c9.size
  have hXlt := kX9.1
  have c10 : Below w3.heap.size w3 w10 := c9.trans (hT.below s39 (fun j hj => by omega))
  have hw10 := hw3.next c10
  have hg10 := hg9.turns hT (fun b hb e => by omega)
  have kG10 := kG9.turns hT (fun e => by omega)
  have kW10 := kW9.turns hT (fun e => by omega)
  have kY10 := kY9.turns hT (fun e => by omega)
  have b10 : Below w.heap.size w w10 := b9.trans (hT.below s9 (fun j hj => by have := hYS.out; omega))
  clear kG9 kX9 kW9 kY9 hg9 P9 F9 b9 c9 hT xc
  have gc0 := kG10.2 0 _ rfl
  have gc1 := kG10.2 1 _ rfl
  have gc2 := kG10.2 2 _ rfl
  have gc3 := kG10.2 3 _ rfl
  have gc4 := kG10.2 4 _ rfl
  have wc0 := kW10.2 0 _ rfl
  have wc1 := kW10.2 1 _ rfl
  have wc2 := kW10.2 2 _ rfl
  have wc3 := kW10.2 3 _ rfl
  have wc4 := kW10.2 4 _ rfl

  go_wp2_with fail
  refine (eqRunG _ hq4 h4 hg10.is hw10).mono ?_
  rintro e w11 ⟨rfl, h11⟩
  have kG11 := kG10.next h11
  have kW11 := kW10.next h11
  have kY11 := kY10.next h11
  have hg11 := hg10.next h11
  have c11 := below_tr c10 h11
  have b11 := below_tr b10 h11
  clear kG10 kW10 kY10 hg10 hw10 b10 c10 h11 gc0 gc1 gc2 gc3 gc4 wc0 wc1 wc2 wc3 wc4
  have gc0 := kG11.2 0 _ rfl
  have gc1 := kG11.2 1 _ rfl
  have gc2 := kG11.2 2 _ rfl
  have gc3 := kG11.2 3 _ rfl
  have gc4 := kG11.2 4 _ rfl

  have lG := kG11.1
  go_wp2_with fail
  refine (markRunG (N := BG) _ hq4 (by omega) h4 hg11).mono ?_
  rintro e w12 ⟨rfl, hk12, h12, ho12⟩
  have s12 := h12.size
  have kG12 := kG11.other s12 ho12 (Nat.le_refl _)
  have kW12 := kW11.nextB h12 (by omega)
  have kY12 := kY11.nextB h12 (by omega)
  have hX3 : w3.heap.size ≤ X := by have := hN4.1; omega
  have c12 := c11.trans (h12.mono hX3)
  have b12 : Below w.heap.size w w12 := b11.trans (h12.mono (by have := hYS.out; omega))
  have hw12 := hw3.next c12
  have n7 : ¬ 10 * (qq : Int) + 1 < 0 := by omega
  clear kG11 kW11 kY11 hg11 c11 b11 h12 ho12 gc0 gc1 gc2 gc3 gc4 lG
  have gc0 := kG12.2 0 _ rfl
  have gc1 := kG12.2 1 _ rfl
  have gc2 := kG12.2 2 _ rfl
  have gc3 := kG12.2 3 _ rfl
  have gc4 := kG12.2 4 _ rfl

  go_wp2_with fail
  refine (heldRunG _ hq4 hk12).mono ?_
  rintro e w13 ⟨rfl, h13⟩
  have kG13 := kG12.next h13
  have kW13 := kW12.next h13
  have kY13 := kY12.next h13
  have hk13 := hk12.next h13
  have hw13 := hw12.next h13
  have b13 := below_tr b12 h13
  clear kG12 kW12 kY12 hk12 hw12 b12 c12 h13 gc0 gc1 gc2 gc3 gc4
  have yc := kY13.2 0 _ rfl

  go_wp2_with fail
  refine (toPrg _ _ _ _ _ _ _ _ hm hnn (r0.next b13)).mono ?_
  rintro e w14 ⟨g8, R8, rfl, _, _, P8, _, _, h14⟩
  go_wp2_with fail
  refine (runNewI _ _ _ _ _ _ _ _ _ _ hm hnn P8).mono ?_
  rintro e w15 ⟨v, rfl, hMh, h15⟩
  rw [hstS.out, hqqS.out, ← hFS.out] at hMh
  obtain ⟨ah, gh, Sh, rfl, hh1, hh2⟩ := hMh
  have hMh : RunIs w14.heap.size st 0 0 0 qq FF (.agg #[.int .i64 st, .slice ah qq qq, .int .i64 0, .int .i64 0, .int .i64 0]) w15 := ⟨ah, gh, Sh, rfl, hh1, hh2⟩
  have h56 : Below w15.heap.size w15 (w15.alloc (.cells #[.int .i64 st, .slice ah qq qq, .int .i64 0, .int .i64 0, .int .i64 0] 47)) := (Below.refl _ _).alloc (Nat.le_refl _) _
  have h36 := below_tr (below_tr h14 h15) h56
  have kH16 : Box w15.heap.size [Value.int .i64 st, .slice ah qq qq, .int .i64 0, .int .i64 0, .int .i64 0] (w15.alloc (.cells #[.int .i64 st, .slice ah qq qq, .int .i64 0, .int .i64 0, .int .i64 0] 47)) := Box.new w15 [Value.int .i64 st, .slice ah qq qq, .int .i64 0, .int .i64 0, .int .i64 0] _
  have hh16 := hMh.next h56
  have hw16 := hw13.next h36
  have kG16 := kG13.next h36
  have kW16 := kW13.next h36
  have hk16 := hk13.next h36
  have b16 := below_tr b13 h36
  clear yc P8 h14 h15 h36 h56 hw13 kG13 kW13 kY13 hk13 b13 hh1 hh2 hMh
  have hc0 := kH16.2 0 _ rfl
  have hc1 := kH16.2 1 _ rfl
  have hc2 := kH16.2 2 _ rfl
  have hc3 := kH16.2 3 _ rfl
  have hc4 := kH16.2 4 _ rfl
  have wc0 := kW16.2 0 _ rfl
  have wc1 := kW16.2 1 _ rfl
  have wc2 := kW16.2 2 _ rfl
  have wc3 := kW16.2 3 _ rfl
  have wc4 := kW16.2 4 _ rfl

  have lH := kH16.1
  have lW := kW16.1
  go_wp2_with fail
  refine (eqRunG _ hq4 h4 hh16 hw16).mono ?_
  rintro e w17 ⟨rfl, h17⟩
  have kG17 := kG16.next h17
  have hk17 := hk16.next h17
  have b17 := below_tr b16 h17
  clear kG16 kW16 kH16 hk16 hw16 hh16 b16 h17 hc0 hc1 hc2 hc3 hc4 wc0 wc1 wc2 wc3 wc4
  have gc0 := kG17.2 0 _ rfl
  have gc1 := kG17.2 1 _ rfl
  have gc2 := kG17.2 2 _ rfl
  have gc3 := kG17.2 3 _ rfl
  have gc4 := kG17.2 4 _ rfl

  go_wp2_with fail
  refine (heldRunG _ hq4 hk17).mono ?_
  rintro e w18 ⟨rfl, h18⟩
  have b18 := below_tr b17 h18
  go_wp2_with fail
  all_goals go_ret
  all_goals exact ⟨rfl, b18⟩

set_option maxRecDepth 100000 in
theorem contract (H : Type) (enc : TypeId × Value → H) (W : World) (base : Nat) (args : Array Value) (ds gs : List (DataW H)) (before : List MemPlace)
    (hval : ∀ (j : Nat) t v, Try.f8.params[j]? = some t → args[j]? = some v → Value.okWide Try.prog W .any base t v)
    (hW : DataW.Whole enc Try.prog Try.f8.params.toList Rows.fnExactRunNewSpec.vars false W args.toList ds gs before) :
    Calls Try.prog 8 args W fun e W' => ∃ v, e = .returned v ∧ Rows.fnExactRunNewSpec.post enc Try.prog Try.f8 false true false false W args v W' := by
  have hW' := hW
  obtain ⟨p, q, hA0, hV, rfl, hfz, hnd⟩ := hW
  have hA : DataW.TrodAll enc Try.prog W 0 (fun _ => true) true Try.f8.params.toList args.toList ds p := hA0
  rw [Try.params8] at hA hval
  obtain ⟨v0, vs0, d0, ds0, p0, q0, hargs, rfl, rfl, h0, r0'⟩ := trodAll_cons hA
  obtain ⟨v1, vs1, d1, ds1, p1, q1, rfl, rfl, rfl, h1, r1'⟩ := trodAll_cons r0'
  obtain ⟨v2, vs2, d2, ds2, p2, q2, rfl, rfl, rfl, h2, r2'⟩ := trodAll_cons r1'
  obtain ⟨rfl, rfl, rfl⟩ := trodAll_nil r2'
  obtain rfl : args = #[v0, v1, v2] := by cases args; simp_all
  obtain ⟨rfl, rfl⟩ := trodVars_none hV
  have k0 := h0
  have lt0 : ∀ x ∈ p0, x.block < W.heap.size := by obtain ⟨m, hm⟩ := k0; exact DataW.trod_lt m _ _ _ hm
  obtain ⟨a0, m0, cap0, rfl, hm0, hn0, r0⟩ := open_prog (hval 0 24 v0 rfl rfl) h0
  obtain ⟨a1, rfl, rfl, rfl, w1⟩ := open_int Try.underlying3 (hval 1 3 v1 rfl rfl) h1
  obtain ⟨a2, rfl, rfl, rfl, w2⟩ := open_int Try.underlying3 (hval 2 3 v2 rfl rfl) h2
  clear hA0
  refine (walk a0 m0 cap0 _ _ _ _ hm0 hn0 a1 w1 a2 w2 W r0).mono fun e W' ⟨he, bel⟩ => ?_
  subst he
  exact ⟨_, rfl, _, _, _, [], _, [], hW', trodAll_mk1 (shut_bool Try.underlying4 _), (trodAll_cons_mk (Below.trod laidOut (by kernel_rfl) (of_decide_eq_true (by kernel_rfl)) k0 bel lt0) (trodAll_cons_mk (shut_int Try.underlying3 w1) (trodAll_cons_mk (shut_int Try.underlying3 w2) trodAll_mk0))), rfl, bel.frame _, fun h => by cases h⟩

set_option maxRecDepth 100000 in
theorem lifted (os : Os) (started : os.Started) (H : Type) (enc : TypeId × Value → H) :
    ReturnsInHanded {} Try.checked os 8 .any (Rows.fnExactRunNewSpec.pre6 enc Try.prog Try.f8 Rows.fnExactRunNewRow.domain false) (Rows.fnExactRunNewSpec.post enc Try.prog Try.f8 false true false false) := by
  refine returnsInHanded_of_change (C := Try.checked) own started (by kernel_rfl) Try.func8
    (ChangeSpec.witness6 (enc := enc) (C := Try.checked) false ⟨#[], #[.agg #[.slice none 0 0], .int .i64 0, .int .i64 0], []⟩ 8 (by kernel_rfl) (by kernel_rfl) (by kernel_rfl) (by kernel_rfl)) ?_
  intro W base args ds gs before hval hW _ _
  exact contract H enc W base args ds gs before hval hW

theorem proved : Rows.FnExactRunNewSaid :=
  OpenClaim.holds_of_wide 8 Try.f8 rfl rfl rfl rfl rfl rfl rfl ⟨rfl, rfl, rfl, rfl, rfl⟩ rfl rfl rfl rfl rfl (by kernel_rfl) Try.func8 (by kernel_rfl)
    (of_decide_eq_true (by kernel_rfl)) (by unfold Func.isWrapper; first | (rw [if_pos (by decide +kernel)]; kernel_rfl) | (rw [if_neg (by decide +kernel)]; exact ⟨rfl, rfl⟩))
    (fun os started H enc _ => lifted os started H enc)
#print axioms proved
end Go.Proofs.Ytndedplmcjfgeaa.fnExactRunNew
