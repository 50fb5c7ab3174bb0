/- Whatever bytes are handed in, the law FnItvJoin returns true. Of more than 1048576 bytes the law itself answers true. No condition. -/
import Derived.Test.YtbnpbjkdigmphaaDrawIn2
import Derived.Test.YtbnpbjkdigmphaaItvTwo
import Derived.Test.YtbnpbjkdigmphaaItvI
import Derived.Test.YtbnpbjkdigmphaaRegInv
import Derived.Deep.RegionHeld3
import Derived.Deep.DeepCutAuto
import Derived.WalkKit
import Derived.ProofKit
import Derived.OpenShut
import Derived.ShutString
import Derived.ChangeOld
import Derived.Below
namespace Go.Proofs.Ytbnpbjkdigmphaa.fnItvJoin
open Go.ChangeShapes Go.WideShapes Go.ChangeAt Go.RowKit
open Go.ChangeMaps (open_string shut_string)
set_option linter.unusedVariables false

theorem own : ownKnob Try.prog.godebug = none := by kernel_rfl
theorem laidOut : laidOutB Try.prog = true := by kernel_rfl

theorem joinS_is (a b c d l h : Int) (w : World) (hl : joinLo a b c d = l) (hh : joinHi a b c d = h) :
    Calls Try.prog 31 #[.agg #[.int .i64 a, .int .i64 b], .agg #[.int .i64 c, .int .i64 d]] w fun e w' => e = .returned (.agg #[.int .i64 l, .int .i64 h]) ∧ Below w.heap.size w w' := by
  subst hl hh; exact joinS a b c d w
theorem joinI_is (a b c d l h : Int) (w : World) (hl : joinLo a b c d = l) (hh : joinHi a b c d = h) :
    Calls Try.prog 30 #[.agg #[.int .i64 a, .int .i64 b], .agg #[.int .i64 c, .int .i64 d]] w fun e w' => e = .returned (.agg #[.int .i64 l, .int .i64 h]) ∧ Below w.heap.size w w' := by
  subst hl hh; exact joinI a b c d w
theorem inI_is (a b c d : Int) (t : Bool) (w : World) (h : itvIn a b c d = t) :
    Calls Try.prog 19 #[.agg #[.int .i64 a, .int .i64 b], .agg #[.int .i64 c, .int .i64 d]] w fun e w' => e = .returned (.bool t) ∧ Below w.heap.size w w' := by
  subst h; exact itvInI a b c d w
theorem ok_all {a b : Int} (h : itvOk a b = true) : -32768 ≤ a ∧ a ≤ 32767 ∧ -32768 ≤ b ∧ b ≤ 32767 ∧ a ≤ b := by
  obtain ⟨h1, h2, h3⟩ := itvOk_of h
  exact ⟨ok_lo h1, ok_hi h1, ok_lo h2, ok_hi h2, h3⟩
theorem ok_mk {a b : Int} (h : -32768 ≤ a ∧ b ≤ 32767 ∧ a ≤ b) : itvOk a b = true := by
  simp [itvOk, okB]; omega
theorem join_is {a b c d : Int} (h1 : itvOk a b = true) (h2 : itvOk c d = true) : joinLo a b c d = min a c ∧ joinHi a b c d = max b d := by
  simp [joinLo, joinHi, two, h1, h2]
theorem in_mk {a b c d : Int} (h1 : itvOk a b = true) (h2 : itvOk c d = true) (h3 : c ≤ a ∧ b ≤ d) : itvIn a b c d = true := by
  simp [itvIn, h1, h2, h3.1, h3.2]
theorem in_of {a b c d : Int} (h : itvIn a b c d = true) : itvOk a b = true ∧ itvOk c d = true ∧ c ≤ a ∧ b ≤ d := by
  simp [itvIn] at h
  exact ⟨h.1.1.1, h.1.1.2, h.1.2, h.2⟩
theorem join_ok {a b c d : Int} (h1 : itvOk a b = true) (h2 : itvOk c d = true) : itvOk (joinLo a b c d) (joinHi a b c d) = true := by
  obtain ⟨e1, e2⟩ := join_is h1 h2
  have k1 := ok_all h1
  have k2 := ok_all h2
  rw [e1, e2]
  exact ok_mk (by omega)
theorem in_join_l {a b c d : Int} (h1 : itvOk a b = true) (h2 : itvOk c d = true) : itvIn a b (joinLo a b c d) (joinHi a b c d) = true := by
  obtain ⟨e1, e2⟩ := join_is h1 h2
  exact in_mk h1 (join_ok h1 h2) (by rw [e1, e2]; omega)
theorem in_join_r {a b c d : Int} (h1 : itvOk a b = true) (h2 : itvOk c d = true) : itvIn c d (joinLo a b c d) (joinHi a b c d) = true := by
  obtain ⟨e1, e2⟩ := join_is h1 h2
  exact in_mk h2 (join_ok h1 h2) (by rw [e1, e2]; omega)
theorem join_comm (a b c d : Int) : joinLo c d a b = joinLo a b c d ∧ joinHi c d a b = joinHi a b c d := by
  unfold joinLo joinHi two
  cases itvOk a b <;> cases itvOk c d <;> simp <;> omega
theorem join_least {a b c d e f : Int} (h1 : itvIn a b e f = true) (h2 : itvIn c d e f = true) : itvIn (joinLo a b c d) (joinHi a b c d) e f = true := by
  obtain ⟨k1, k2, k3, k4⟩ := in_of h1
  obtain ⟨l1, _, l3, l4⟩ := in_of h2
  obtain ⟨e1, e2⟩ := join_is k1 l1
  exact in_mk (join_ok k1 l1) k2 (by rw [e1, e2]; omega)
theorem join_assoc {a b c d e f : Int} (h1 : itvOk a b = true) (h2 : itvOk c d = true) (h3 : itvOk e f = true) : joinLo (joinLo a b c d) (joinHi a b c d) e f = joinLo a b (joinLo c d e f) (joinHi c d e f) ∧ joinHi (joinLo a b c d) (joinHi a b c d) e f = joinHi a b (joinLo c d e f) (joinHi c d e f) := by
  obtain ⟨e1, e2⟩ := join_is (join_ok h1 h2) h3
  obtain ⟨e3, e4⟩ := join_is h1 (join_ok h2 h3)
  obtain ⟨e5, e6⟩ := join_is h1 h2
  obtain ⟨e7, e8⟩ := join_is h2 h3
  rw [e1, e2, e3, e4, e5, e6, e7, e8]
  omega
theorem drawJoin (a : Option Addr) (len cap : Nat) (z : Nat → Int) (w : World) (hz : ∀ i, 0 ≤ z i ∧ z i ≤ 255) (hl : len ≤ 1048576) (h : Bytes w a len cap z) :
    Calls Try.prog 29 #[.slice a len cap] w (DTwo w) := by
  have b0 : Below w.heap.size w ((w.alloc (.cells #[.int .i64 0, .int .i64 0] 24)).alloc (.cells #[.int .i64 0, .int .i64 0] 24)) := by
    repeat (first | exact Below.refl _ _ | refine Below.alloc ?_ (by simp; try omega) _)
  go_enter Try.func29, Try.ntmps29
  go_wp2_with fail
  refine (drawIn a len cap z _ hz hl (h.kept b0)).mono ?_
  rintro e w1 ⟨x0, x1, y0, y1, q0, q1, q2, q3, rfl, b1⟩
  have b2 := below_tr b0 b1
  obtain ⟨hc, hf⟩ := bcell b1
  obtain ⟨e0, e1⟩ := own2 (W := w1) (B := w.heap.size) (u := .int .i64 0) (v := .int .i64 0) (by rw [hc w.heap.size 0 (by simp; try omega)]; simp [go_sem]) (by rw [hc w.heap.size 1 (by simp; try omega)]; simp [go_sem])
  obtain ⟨e2, e3⟩ := own4 (W := w1) (B := w.heap.size) (C := w.heap.size + 1) (u := .int .i64 0) (v := .int .i64 0) (by omega) (by rw [hc (w.heap.size + 1) 0 (by simp)]; simp [go_sem]) (by rw [hc (w.heap.size + 1) 1 (by simp)]; simp [go_sem])
  go_wp2_with fail
  refine bodyPost_ret (v := .tuple #[.agg #[.int .i64 x0, .int .i64 x1], .agg #[.int .i64 y0, .int .i64 y1]]) (by simp [results, Try.results29, go_sem, e0, e1, e2, e3]) rfl ⟨x0, x1, y0, y1, q0, q1, q2, q3, rfl, ?_⟩
  repeat (first | exact b2 | refine Below.setCell ?_ (by simp; try omega) _)
theorem owOkT (w : World) : Calls Try.prog 14 #[] w fun e w' => e = .returned (.bool true) ∧ w' = w := by
  go_enter Try.func14, Try.ntmps14
  go_wp2_with (go_at_call 51; refine (okI _ _).mono ?_; rintro e w' ⟨rfl, rfl⟩)
  go_ret
  exact ⟨rfl, rfl⟩

set_option maxHeartbeats 8000000 in
theorem walk (a0 : Option Addr) (len0 cap0 : Nat) (z0 : Nat → Int) (a1 : Option Addr) (len1 cap1 : Nat) (z1 : Nat → Int) (w : World) (hz0 : ∀ i, 0 ≤ z0 i ∧ z0 i ≤ 255) (r0 : Bytes w a0 len0 cap0 z0) (hz1 : ∀ i, 0 ≤ z1 i ∧ z1 i ≤ 255) (r1 : Bytes w a1 len1 cap1 z1) :
    Calls Try.prog 7 #[.slice a0 len0 cap0, .slice a1 len1 cap1] w fun e w' => e = .returned (.bool true) ∧ Below w.heap.size w w' := by
  by_cases hl0 : len0 ≤ 1048576
  case neg =>
    have hi : (1048576 : Int) < (len0 : Int) := by omega
    go_enter Try.func7, Try.ntmps7
    go_wp2_with fail
    go_ret
    exact ⟨rfl, Below.refl _ _⟩
  have hi0 : ¬ (1048576 : Int) < (len0 : Int) := by omega
  by_cases hl1 : len1 ≤ 1048576
  case neg =>
    have hi : (1048576 : Int) < (len1 : Int) := by omega
    go_enter Try.func7, Try.ntmps7
    go_wp2_with fail
    go_ret
    exact ⟨rfl, Below.refl _ _⟩
  have hi1 : ¬ (1048576 : Int) < (len1 : Int) := by omega
  go_enter Try.func7, Try.ntmps7
  go_wp2_with fail
  refine (drawJoin a0 len0 cap0 z0 _ hz0 hl0 r0).mono ?_
  rintro e w1 ⟨x0, x1, y0, y1, hx0, hx1, hy0, hy1, rfl, b1⟩
  have H3 : HeldL w [(w1.heap.size + 1, [Value.int .i64 y0, .int .i64 y1]), (w1.heap.size, [Value.int .i64 x0, .int .i64 x1])] ((w1.alloc (.cells #[.int .i64 x0, .int .i64 x1] 24)).alloc (.cells #[.int .i64 y0, .int .i64 y1] 24)) := by
    have e : w1.heap.size + 1 = (w1.alloc (.cells #[.int .i64 x0, .int .i64 x1] 24)).heap.size := by simp
    rw [e]
    exact HeldL.new (HeldL.new ((HeldL.nil w).next b1))
  have r1' := r1.kept H3.below
  clear r0 r1
  go_wp2_with fail
  refine (drawJoin a1 len1 cap1 z1 _ hz1 hl1 r1').mono ?_
  rintro e w2 ⟨u0, u1, v0, v1, hu0, hu1, hv0, hv1, rfl, b2⟩
  have H5 : HeldL w [(w2.heap.size + 1, [Value.int .i64 v0, .int .i64 v1]), (w2.heap.size, [Value.int .i64 u0, .int .i64 u1]), (w1.heap.size + 1, [Value.int .i64 y0, .int .i64 y1]), (w1.heap.size, [Value.int .i64 x0, .int .i64 x1])] ((w2.alloc (.cells #[.int .i64 u0, .int .i64 u1] 24)).alloc (.cells #[.int .i64 v0, .int .i64 v1] 24)) := by
    have e : w2.heap.size + 1 = (w2.alloc (.cells #[.int .i64 u0, .int .i64 u1] 24)).heap.size := by simp
    rw [e]
    exact HeldL.new (HeldL.new (H3.next b2))
  have a0' := H5.cell (e := (w1.heap.size, [Value.int .i64 x0, .int .i64 x1])) (by simp) (i := 0) rfl
  have a1' := H5.cell (e := (w1.heap.size, [Value.int .i64 x0, .int .i64 x1])) (by simp) (i := 1) rfl
  have a2' := H5.cell (e := (w1.heap.size + 1, [Value.int .i64 y0, .int .i64 y1])) (by simp) (i := 0) rfl
  have a3' := H5.cell (e := (w1.heap.size + 1, [Value.int .i64 y0, .int .i64 y1])) (by simp) (i := 1) rfl
  clear r1' H3 b2
  obtain ⟨jl, hjl0⟩ : ∃ l, joinLo x0 x1 y0 y1 = l := ⟨_, rfl⟩
  obtain ⟨jh, hjh0⟩ : ∃ l, joinHi x0 x1 y0 y1 = l := ⟨_, rfl⟩
  have hjl : Hid (joinLo x0 x1 y0 y1 = jl) := hjl0
  have hjh : Hid (joinHi x0 x1 y0 y1 = jh) := hjh0
  clear hjl0 hjh0
  go_wp2_with fail
  refine (joinI_is _ _ _ _ jl jh _ hjl.out hjh.out).mono ?_
  rintro e w3 ⟨rfl, b3⟩
  have H6 := HeldL.new (t := 24) (x := .int .i64 jl) (y := .int .i64 jh) (H5.next b3)
  obtain ⟨Lb, hLb⟩ : ∃ Lb, Lb = [(w3.heap.size, [Value.int .i64 jl, .int .i64 jh]), (w2.heap.size + 1, [Value.int .i64 v0, .int .i64 v1]), (w2.heap.size, [Value.int .i64 u0, .int .i64 u1]), (w1.heap.size + 1, [Value.int .i64 y0, .int .i64 y1]), (w1.heap.size, [Value.int .i64 x0, .int .i64 x1])] := ⟨_, rfl⟩
  have mA : (w1.heap.size, [Value.int .i64 x0, .int .i64 x1]) ∈ Lb := by rw [hLb]; simp
  have mB : (w1.heap.size + 1, [Value.int .i64 y0, .int .i64 y1]) ∈ Lb := by rw [hLb]; simp
  have mC : (w2.heap.size, [Value.int .i64 u0, .int .i64 u1]) ∈ Lb := by rw [hLb]; simp
  have mJ : (w3.heap.size, [Value.int .i64 jl, .int .i64 jh]) ∈ Lb := by rw [hLb]; simp
  have hS0 : HeldL w Lb (w3.alloc (.cells #[.int .i64 jl, .int .i64 jh] 24)).drew := by rw [hLb]; exact H6.drew
  clear H5 H6 b3 a0' a1' a2' a3' b1 hLb
  go_wp2_with fail
  refine region_inv3 [(0, 31), (1, 32), (2, 33), (3, 34), (4, 35)]
    (fun j v _ => match j with
      | 0 => Is (.agg #[.int .i64 jl, .int .i64 jh]) v
      | 1 => Is (.agg #[.int .i64 x0, .int .i64 x1]) v
      | 2 => Is (.agg #[.int .i64 y0, .int .i64 y1]) v
      | 3 => Is (.agg #[.int .i64 jl, .int .i64 jh]) v
      | 4 => Is (.bool false) v
      | _ => True)
    (fun _ W => HeldL w Lb W) TT
    (by kernel_rfl) (by kernel_rfl) (by kernel_rfl) (by kernel_rfl) (by kernel_rfl) rfl hS0 (fun i j v W W' _ h _ => h) ?_ ?_
  · intro i L vals W hi' hφ hS hL hd
    have hi2 : i < 5 := hi'
    rcases (show i = 0 ∨ i = 1 ∨ i = 2 ∨ i = 3 ∨ i = 4 by omega) with rfl | rfl | rfl | rfl | rfl
    · have c0 : W.cell? ⟨w3.heap.size, 0, none⟩ = some (.int .i64 jl) := HeldL.cell hS mJ (i := 0) rfl
      have c1 : W.cell? ⟨w3.heap.size, 1, none⟩ = some (.int .i64 jh) := HeldL.cell hS mJ (i := 1) rfl
      refine wpAt_of rfl rfl ?_
      simp only [frOf, Act.put]
      go_wp2_with fail
      first | exact ⟨trivial, rfl, trivial, hS⟩ | exact ⟨rfl, trivial, hS⟩
    · have c0 : W.cell? ⟨w1.heap.size, 0, none⟩ = some (.int .i64 x0) := HeldL.cell hS mA (i := 0) rfl
      have c1 : W.cell? ⟨w1.heap.size, 1, none⟩ = some (.int .i64 x1) := HeldL.cell hS mA (i := 1) rfl
      refine wpAt_of rfl rfl ?_
      simp only [frOf, Act.put]
      go_wp2_with fail
      first | exact ⟨trivial, rfl, trivial, hS⟩ | exact ⟨rfl, trivial, hS⟩
    · have c0 : W.cell? ⟨w1.heap.size + 1, 0, none⟩ = some (.int .i64 y0) := HeldL.cell hS mB (i := 0) rfl
      have c1 : W.cell? ⟨w1.heap.size + 1, 1, none⟩ = some (.int .i64 y1) := HeldL.cell hS mB (i := 1) rfl
      refine wpAt_of rfl rfl ?_
      simp only [frOf, Act.put]
      go_wp2_with fail
      first | exact ⟨trivial, rfl, trivial, hS⟩ | exact ⟨rfl, trivial, hS⟩
    · have k1 : vals 1 = .agg #[.int .i64 x0, .int .i64 x1] := hφ 1 (hd 1 (by decide))
      have k2 : vals 2 = .agg #[.int .i64 y0, .int .i64 y1] := hφ 2 (hd 2 (by decide))
      refine wpAt_of rfl rfl ?_
      simp only [frOf, Act.put]
      go_wp2_with fail
      refine (joinS_is _ _ _ _ jl jh _ hjl.out hjh.out).mono ?_
      rintro e W' ⟨rfl, hb⟩
      go_wp2_with fail
      first | exact ⟨trivial, rfl, trivial, HeldL.next hb hS⟩ | exact ⟨rfl, trivial, HeldL.next hb hS⟩
    · have k0 : vals 0 = .agg #[.int .i64 jl, .int .i64 jh] := hφ 0 (hd 0 (by decide))
      have k3 : vals 3 = .agg #[.int .i64 jl, .int .i64 jh] := hφ 3 (hd 3 (by decide))
      refine wpAt_of rfl rfl ?_
      simp only [frOf, Act.put]
      go_wp2_with fail
      first | exact ⟨trivial, rfl, trivial, hS⟩ | exact ⟨rfl, trivial, hS⟩
  · intro L vals W hall hφ hS
    have k0 : vals 0 = .agg #[.int .i64 jl, .int .i64 jh] := hφ 0 (by decide)
    have k1 : vals 1 = .agg #[.int .i64 x0, .int .i64 x1] := hφ 1 (by decide)
    have k2 : vals 2 = .agg #[.int .i64 y0, .int .i64 y1] := hφ 2 (by decide)
    have k3 : vals 3 = .agg #[.int .i64 jl, .int .i64 jh] := hφ 3 (by decide)
    have k4 : vals 4 = .bool false := hφ 4 (by decide)
    simp only [frOf, Act.put, List.setIfInBounds_toArray, List.set_cons_succ, List.set_cons_zero, k0, k1, k2, k3, k4]
    clear k0 k1 k2 k3 k4
    clear hall hφ
    have c0 : W.cell? ⟨w1.heap.size, 0, none⟩ = some (.int .i64 x0) := hS.cell mA (i := 0) rfl
    have c1 : W.cell? ⟨w1.heap.size, 1, none⟩ = some (.int .i64 x1) := hS.cell mA (i := 1) rfl
    clear hS0
    cases oka : itvOk x0 x1
    · have jz : jl = 0 ∧ jh = 0 := by rw [← hjl.out, ← hjh.out]; simp [joinLo, joinHi, two, oka]
      obtain ⟨rfl, rfl⟩ := jz
      go_wp2_with fail
      refine (itvOkS _ _ _).mono ?_
      rintro e w5 ⟨rfl, b5⟩
      rw [oka]
      have hS5 := hS.next b5
      have e0 : w5.cell? ⟨w3.heap.size, 0, none⟩ = some (.int .i64 0) := hS5.cell mJ (i := 0) rfl
      have e1 : w5.cell? ⟨w3.heap.size, 1, none⟩ = some (.int .i64 0) := hS5.cell mJ (i := 1) rfl
      go_wp2_with (first | (go_at_call 14; refine (owOkT _).mono ?_; rintro e w' ⟨rfl, rfl⟩))
      go_ret
      exact ⟨rfl, hS5.below⟩
    go_wp2_with fail
    refine (itvOkS _ _ _).mono ?_
    rintro e w5 ⟨rfl, b5⟩
    rw [oka]
    have hS5 := hS.next b5
    have c2 : w5.cell? ⟨w1.heap.size + 1, 0, none⟩ = some (.int .i64 y0) := hS5.cell mB (i := 0) rfl
    have c3 : w5.cell? ⟨w1.heap.size + 1, 1, none⟩ = some (.int .i64 y1) := hS5.cell mB (i := 1) rfl
    clear c0 c1 hS b5
    go_wp2_with fail
    refine (itvOkS _ _ _).mono ?_
    rintro e w6 ⟨rfl, b6⟩
    have hS6 := hS5.next b6
    clear c2 c3 hS5 b6
    cases okb : itvOk y0 y1
    · have jz : jl = 0 ∧ jh = 0 := by rw [← hjl.out, ← hjh.out]; simp [joinLo, joinHi, two, okb]
      obtain ⟨rfl, rfl⟩ := jz
      have e0 : w6.cell? ⟨w3.heap.size, 0, none⟩ = some (.int .i64 0) := hS6.cell mJ (i := 0) rfl
      have e1 : w6.cell? ⟨w3.heap.size, 1, none⟩ = some (.int .i64 0) := hS6.cell mJ (i := 1) rfl
      go_wp2_with (first | (go_at_call 14; refine (owOkT _).mono ?_; rintro e w' ⟨rfl, rfl⟩))
      go_ret
      exact ⟨rfl, hS6.below⟩
    have iA : Hid (itvIn x0 x1 jl jh = true) := by rw [← hjl.out, ← hjh.out]; exact in_join_l oka okb
    have iB : Hid (itvIn y0 y1 jl jh = true) := by rw [← hjl.out, ← hjh.out]; exact in_join_r oka okb
    have hjl2 : Hid (joinLo y0 y1 x0 x1 = jl) := (join_comm _ _ _ _).1.trans hjl.out
    have hjh2 : Hid (joinHi y0 y1 x0 x1 = jh) := (join_comm _ _ _ _).2.trans hjh.out
    have hS0 : HeldL w Lb w6.drew := hS6.drew
    go_wp2_with fail
    refine region_inv3 [(0, 50), (1, 51), (2, 52), (3, 53), (4, 54), (5, 55), (6, 56), (7, 57), (8, 58), (9, 59), (10, 60), (11, 61), (12, 62), (13, 63), (14, 64), (15, 65), (16, 66)]
      (fun j v _ => match j with
        | 0 => Is (.agg #[.int .i64 x0, .int .i64 x1]) v
        | 1 => Is (.agg #[.int .i64 jl, .int .i64 jh]) v
        | 2 => Is (.bool true) v
        | 3 => Is (.bool false) v
        | 4 => Is (.bool false) v
        | 5 => Is (.agg #[.int .i64 y0, .int .i64 y1]) v
        | 6 => Is (.agg #[.int .i64 jl, .int .i64 jh]) v
        | 7 => Is (.bool true) v
        | 8 => Is (.bool false) v
        | 9 => Is (.bool false) v
        | 10 => Is (.bool false) v
        | 11 => Is (.agg #[.int .i64 y0, .int .i64 y1]) v
        | 12 => Is (.agg #[.int .i64 x0, .int .i64 x1]) v
        | 13 => Is (.agg #[.int .i64 jl, .int .i64 jh]) v
        | 14 => Is (.agg #[.int .i64 jl, .int .i64 jh]) v
        | 15 => Is (.bool false) v
        | 16 => Is (.bool false) v
        | _ => True)
      (fun _ W => HeldL w Lb W) TT
      (by kernel_rfl) (by kernel_rfl) (by kernel_rfl) (by kernel_rfl) (by kernel_rfl) rfl hS0 (fun i j v W W' _ h _ => h) ?_ ?_
    · intro i L vals W hi' hφ hS hL hd
      have hi2 : i < 17 := hi'
      rcases (show i = 0 ∨ i = 1 ∨ i = 2 ∨ i = 3 ∨ i = 4 ∨ i = 5 ∨ i = 6 ∨ i = 7 ∨ i = 8 ∨ i = 9 ∨ i = 10 ∨ i = 11 ∨ i = 12 ∨ i = 13 ∨ i = 14 ∨ i = 15 ∨ i = 16 by omega) with rfl | rfl | rfl | rfl | rfl | rfl | rfl | rfl | rfl | rfl | rfl | rfl | rfl | rfl | rfl | rfl | rfl
      · have c0 : W.cell? ⟨w1.heap.size, 0, none⟩ = some (.int .i64 x0) := HeldL.cell hS mA (i := 0) rfl
        have c1 : W.cell? ⟨w1.heap.size, 1, none⟩ = some (.int .i64 x1) := HeldL.cell hS mA (i := 1) rfl
        refine wpAt_of rfl rfl ?_
        simp only [frOf, Act.put]
        go_wp2_with fail
        first | exact ⟨trivial, rfl, trivial, hS⟩ | exact ⟨rfl, trivial, hS⟩
      · have c0 : W.cell? ⟨w3.heap.size, 0, none⟩ = some (.int .i64 jl) := HeldL.cell hS mJ (i := 0) rfl
        have c1 : W.cell? ⟨w3.heap.size, 1, none⟩ = some (.int .i64 jh) := HeldL.cell hS mJ (i := 1) rfl
        refine wpAt_of rfl rfl ?_
        simp only [frOf, Act.put]
        go_wp2_with fail
        first | exact ⟨trivial, rfl, trivial, hS⟩ | exact ⟨rfl, trivial, hS⟩
      · have k0 : vals 0 = .agg #[.int .i64 x0, .int .i64 x1] := hφ 0 (hd 0 (by decide))
        have k1 : vals 1 = .agg #[.int .i64 jl, .int .i64 jh] := hφ 1 (hd 1 (by decide))
        refine wpAt_of rfl rfl ?_
        simp only [frOf, Act.put]
        go_wp2_with fail
        refine (inI_is _ _ _ _ true _ (by first | exact iA.out | exact iB.out)).mono ?_
        rintro e W' ⟨rfl, hb⟩
        go_wp2_with fail
        first | exact ⟨trivial, rfl, trivial, HeldL.next hb hS⟩ | exact ⟨rfl, trivial, HeldL.next hb hS⟩
      · have k2 : vals 2 = .bool true := hφ 2 (hd 2 (by decide))
        refine wpAt_of rfl rfl ?_
        simp only [frOf, Act.put]
        go_wp2_with fail
        first | exact ⟨trivial, rfl, trivial, hS⟩ | exact ⟨rfl, trivial, hS⟩
      · have k3 : vals 3 = .bool false := hφ 3 (hd 3 (by decide))
        refine wpAt_of rfl rfl ?_
        simp only [frOf, Act.put]
        go_wp2_with fail
        first | exact ⟨trivial, rfl, trivial, hS⟩ | exact ⟨rfl, trivial, hS⟩
      · have k4 : vals 4 = .bool false := hφ 4 (hd 4 (by decide))
        have c0 : W.cell? ⟨w1.heap.size + 1, 0, none⟩ = some (.int .i64 y0) := HeldL.cell hS mB (i := 0) rfl
        have c1 : W.cell? ⟨w1.heap.size + 1, 1, none⟩ = some (.int .i64 y1) := HeldL.cell hS mB (i := 1) rfl
        simp only [wpAt, List.getElem?_toArray, List.getElem?_cons_succ, List.getElem?_cons_zero, slotOf, frOf, Act.put]
        go_wp2_with fail
        first | exact ⟨trivial, rfl, trivial, hS⟩ | exact ⟨rfl, trivial, hS⟩
      · have k4 : vals 4 = .bool false := hφ 4 (hd 4 (by decide))
        have c0 : W.cell? ⟨w3.heap.size, 0, none⟩ = some (.int .i64 jl) := HeldL.cell hS mJ (i := 0) rfl
        have c1 : W.cell? ⟨w3.heap.size, 1, none⟩ = some (.int .i64 jh) := HeldL.cell hS mJ (i := 1) rfl
        simp only [wpAt, List.getElem?_toArray, List.getElem?_cons_succ, List.getElem?_cons_zero, slotOf, frOf, Act.put]
        go_wp2_with fail
        first | exact ⟨trivial, rfl, trivial, hS⟩ | exact ⟨rfl, trivial, hS⟩
      · have k4 : vals 4 = .bool false := hφ 4 (hd 4 (by decide))
        have k5 : vals 5 = .agg #[.int .i64 y0, .int .i64 y1] := hφ 5 (hd 5 (by decide))
        have k6 : vals 6 = .agg #[.int .i64 jl, .int .i64 jh] := hφ 6 (hd 6 (by decide))
        simp only [wpAt, List.getElem?_toArray, List.getElem?_cons_succ, List.getElem?_cons_zero, slotOf, frOf, Act.put]
        go_wp2_with fail
        refine (inI_is _ _ _ _ true _ (by first | exact iA.out | exact iB.out)).mono ?_
        rintro e W' ⟨rfl, hb⟩
        go_wp2_with fail
        first | exact ⟨trivial, rfl, trivial, HeldL.next hb hS⟩ | exact ⟨rfl, trivial, HeldL.next hb hS⟩
      · have k4 : vals 4 = .bool false := hφ 4 (hd 4 (by decide))
        have k7 : vals 7 = .bool true := hφ 7 (hd 7 (by decide))
        simp only [wpAt, List.getElem?_toArray, List.getElem?_cons_succ, List.getElem?_cons_zero, slotOf, frOf, Act.put]
        go_wp2_with fail
        first | exact ⟨trivial, rfl, trivial, hS⟩ | exact ⟨rfl, trivial, hS⟩
      · have k4 : vals 4 = .bool false := hφ 4 (hd 4 (by decide))
        have k8 : vals 8 = .bool false := hφ 8 (hd 8 (by decide))
        refine wpAt_of rfl rfl ?_
        simp only [frOf, Act.put]
        go_wp2_with fail
        first | exact ⟨trivial, rfl, trivial, hS⟩ | exact ⟨rfl, trivial, hS⟩
      · have k9 : vals 9 = .bool false := hφ 9 (hd 9 (by decide))
        refine wpAt_of rfl rfl ?_
        simp only [frOf, Act.put]
        go_wp2_with fail
        first | exact ⟨trivial, rfl, trivial, hS⟩ | exact ⟨rfl, trivial, hS⟩
      · have k10 : vals 10 = .bool false := hφ 10 (hd 10 (by decide))
        have c0 : W.cell? ⟨w1.heap.size + 1, 0, none⟩ = some (.int .i64 y0) := HeldL.cell hS mB (i := 0) rfl
        have c1 : W.cell? ⟨w1.heap.size + 1, 1, none⟩ = some (.int .i64 y1) := HeldL.cell hS mB (i := 1) rfl
        simp only [wpAt, List.getElem?_toArray, List.getElem?_cons_succ, List.getElem?_cons_zero, slotOf, frOf, Act.put]
        go_wp2_with fail
        first | exact ⟨trivial, rfl, trivial, hS⟩ | exact ⟨rfl, trivial, hS⟩
      · have k10 : vals 10 = .bool false := hφ 10 (hd 10 (by decide))
        have c0 : W.cell? ⟨w1.heap.size, 0, none⟩ = some (.int .i64 x0) := HeldL.cell hS mA (i := 0) rfl
        have c1 : W.cell? ⟨w1.heap.size, 1, none⟩ = some (.int .i64 x1) := HeldL.cell hS mA (i := 1) rfl
        simp only [wpAt, List.getElem?_toArray, List.getElem?_cons_succ, List.getElem?_cons_zero, slotOf, frOf, Act.put]
        go_wp2_with fail
        first | exact ⟨trivial, rfl, trivial, hS⟩ | exact ⟨rfl, trivial, hS⟩
      · have k10 : vals 10 = .bool false := hφ 10 (hd 10 (by decide))
        have k11 : vals 11 = .agg #[.int .i64 y0, .int .i64 y1] := hφ 11 (hd 11 (by decide))
        have k12 : vals 12 = .agg #[.int .i64 x0, .int .i64 x1] := hφ 12 (hd 12 (by decide))
        simp only [wpAt, List.getElem?_toArray, List.getElem?_cons_succ, List.getElem?_cons_zero, slotOf, frOf, Act.put]
        go_wp2_with fail
        refine (joinI_is _ _ _ _ jl jh _ hjl2.out hjh2.out).mono ?_
        rintro e W' ⟨rfl, hb⟩
        go_wp2_with fail
        first | exact ⟨trivial, rfl, trivial, HeldL.next hb hS⟩ | exact ⟨rfl, trivial, HeldL.next hb hS⟩
      · have k10 : vals 10 = .bool false := hφ 10 (hd 10 (by decide))
        have c0 : W.cell? ⟨w3.heap.size, 0, none⟩ = some (.int .i64 jl) := HeldL.cell hS mJ (i := 0) rfl
        have c1 : W.cell? ⟨w3.heap.size, 1, none⟩ = some (.int .i64 jh) := HeldL.cell hS mJ (i := 1) rfl
        simp only [wpAt, List.getElem?_toArray, List.getElem?_cons_succ, List.getElem?_cons_zero, slotOf, frOf, Act.put]
        go_wp2_with fail
        first | exact ⟨trivial, rfl, trivial, hS⟩ | exact ⟨rfl, trivial, hS⟩
      · have k10 : vals 10 = .bool false := hφ 10 (hd 10 (by decide))
        have k13 : vals 13 = .agg #[.int .i64 jl, .int .i64 jh] := hφ 13 (hd 13 (by decide))
        have k14 : vals 14 = .agg #[.int .i64 jl, .int .i64 jh] := hφ 14 (hd 14 (by decide))
        simp only [wpAt, List.getElem?_toArray, List.getElem?_cons_succ, List.getElem?_cons_zero, slotOf, frOf, Act.put]
        go_wp2_with fail
        first | exact ⟨trivial, rfl, trivial, hS⟩ | exact ⟨rfl, trivial, hS⟩
      · have k10 : vals 10 = .bool false := hφ 10 (hd 10 (by decide))
        have k15 : vals 15 = .bool false := hφ 15 (hd 15 (by decide))
        refine wpAt_of rfl rfl ?_
        simp only [frOf, Act.put]
        go_wp2_with fail
        first | exact ⟨trivial, rfl, trivial, hS⟩ | exact ⟨rfl, trivial, hS⟩
    · intro L vals W hall hφ hS
      have k0 : vals 0 = .agg #[.int .i64 x0, .int .i64 x1] := hφ 0 (by decide)
      have k1 : vals 1 = .agg #[.int .i64 jl, .int .i64 jh] := hφ 1 (by decide)
      have k2 : vals 2 = .bool true := hφ 2 (by decide)
      have k3 : vals 3 = .bool false := hφ 3 (by decide)
      have k4 : vals 4 = .bool false := hφ 4 (by decide)
      have k5 : vals 5 = .agg #[.int .i64 y0, .int .i64 y1] := hφ 5 (by decide)
      have k6 : vals 6 = .agg #[.int .i64 jl, .int .i64 jh] := hφ 6 (by decide)
      have k7 : vals 7 = .bool true := hφ 7 (by decide)
      have k8 : vals 8 = .bool false := hφ 8 (by decide)
      have k9 : vals 9 = .bool false := hφ 9 (by decide)
      have k10 : vals 10 = .bool false := hφ 10 (by decide)
      have k11 : vals 11 = .agg #[.int .i64 y0, .int .i64 y1] := hφ 11 (by decide)
      have k12 : vals 12 = .agg #[.int .i64 x0, .int .i64 x1] := hφ 12 (by decide)
      have k13 : vals 13 = .agg #[.int .i64 jl, .int .i64 jh] := hφ 13 (by decide)
      have k14 : vals 14 = .agg #[.int .i64 jl, .int .i64 jh] := hφ 14 (by decide)
      have k15 : vals 15 = .bool false := hφ 15 (by decide)
      have k16 : vals 16 = .bool false := hφ 16 (by decide)
      simp only [frOf, Act.put, List.setIfInBounds_toArray, List.set_cons_succ, List.set_cons_zero, k0, k1, k2, k3, k4, k5, k6, k7, k8, k9, k10, k11, k12, k13, k14, k15, k16]
      clear k0 k1 k2 k3 k4 k5 k6 k7 k8 k9 k10 k11 k12 k13 k14 k15 k16
      clear hall hφ
      have c0 : W.cell? ⟨w2.heap.size, 0, none⟩ = some (.int .i64 u0) := hS.cell mC (i := 0) rfl
      have c1 : W.cell? ⟨w2.heap.size, 1, none⟩ = some (.int .i64 u1) := hS.cell mC (i := 1) rfl
      clear hS0 hS6
      go_wp2_with fail
      refine (itvOkS _ _ _).mono ?_
      rintro e w7 ⟨rfl, b7⟩
      have hS7 := hS.next b7
      clear c0 c1 hS b7
      cases okc : itvOk u0 u1
      · go_wp2_with (first | (go_at_call 14; refine (owOkT _).mono ?_; rintro e w' ⟨rfl, rfl⟩))
        go_ret
        exact ⟨rfl, hS7.below⟩
      have d0 : w7.cell? ⟨w1.heap.size, 0, none⟩ = some (.int .i64 x0) := hS7.cell mA (i := 0) rfl
      have d1 : w7.cell? ⟨w1.heap.size, 1, none⟩ = some (.int .i64 x1) := hS7.cell mA (i := 1) rfl
      have d2 : w7.cell? ⟨w2.heap.size, 0, none⟩ = some (.int .i64 u0) := hS7.cell mC (i := 0) rfl
      have d3 : w7.cell? ⟨w2.heap.size, 1, none⟩ = some (.int .i64 u1) := hS7.cell mC (i := 1) rfl
      go_wp2_with fail
      refine (itvInI _ _ _ _ _).mono ?_
      rintro e w8 ⟨rfl, b8⟩
      have hS8 := hS7.next b8
      clear d0 d1 d2 d3 b8 hS7
      obtain ⟨pl, f1'⟩ : ∃ l, joinLo jl jh u0 u1 = l := ⟨_, rfl⟩
      obtain ⟨ph, f2'⟩ : ∃ l, joinHi jl jh u0 u1 = l := ⟨_, rfl⟩
      obtain ⟨ql, f3'⟩ : ∃ l, joinLo y0 y1 u0 u1 = l := ⟨_, rfl⟩
      obtain ⟨qh, f4'⟩ : ∃ l, joinHi y0 y1 u0 u1 = l := ⟨_, rfl⟩
      have f1 : Hid (joinLo jl jh u0 u1 = pl) := f1'
      have f2 : Hid (joinHi jl jh u0 u1 = ph) := f2'
      have f3 : Hid (joinLo y0 y1 u0 u1 = ql) := f3'
      have f4 : Hid (joinHi y0 y1 u0 u1 = qh) := f4'
      have f56 := join_assoc oka okb okc
      rw [hjl.out, hjh.out, f1', f2', f3', f4'] at f56
      have f5 : Hid (joinLo x0 x1 ql qh = pl) := f56.1.symm
      have f6 : Hid (joinHi x0 x1 ql qh = ph) := f56.2.symm
      clear f1' f2' f3' f4' f56
      cases iAC : itvIn x0 x1 u0 u1
      · have hS0 : HeldL w Lb w8.drew := hS8.drew
        go_wp2_with fail
        refine region_inv3 [(0, 85), (1, 86), (2, 87), (3, 88), (4, 89), (5, 90), (6, 91), (7, 92), (8, 93), (9, 4)]
          (fun j v _ => match j with
            | 0 => Is (.agg #[.int .i64 jl, .int .i64 jh]) v
            | 1 => Is (.agg #[.int .i64 u0, .int .i64 u1]) v
            | 2 => Is (.agg #[.int .i64 pl, .int .i64 ph]) v
            | 3 => Is (.agg #[.int .i64 x0, .int .i64 x1]) v
            | 4 => Is (.agg #[.int .i64 y0, .int .i64 y1]) v
            | 5 => Is (.agg #[.int .i64 u0, .int .i64 u1]) v
            | 6 => Is (.agg #[.int .i64 ql, .int .i64 qh]) v
            | 7 => Is (.agg #[.int .i64 pl, .int .i64 ph]) v
            | 8 => Is (.bool true) v
            | 9 => Is (.bool true) v
            | _ => True)
          (fun _ W => HeldL w Lb W) TT
          (by kernel_rfl) (by kernel_rfl) (by kernel_rfl) (by kernel_rfl) (by kernel_rfl) rfl hS0 (fun i j v W W' _ h _ => h) ?_ ?_
        · intro i L vals W hi' hφ hS hL hd
          have hi2 : i < 10 := hi'
          rcases (show i = 0 ∨ i = 1 ∨ i = 2 ∨ i = 3 ∨ i = 4 ∨ i = 5 ∨ i = 6 ∨ i = 7 ∨ i = 8 ∨ i = 9 by omega) with rfl | rfl | rfl | rfl | rfl | rfl | rfl | rfl | rfl | rfl
          · have c0 : W.cell? ⟨w3.heap.size, 0, none⟩ = some (.int .i64 jl) := HeldL.cell hS mJ (i := 0) rfl
            have c1 : W.cell? ⟨w3.heap.size, 1, none⟩ = some (.int .i64 jh) := HeldL.cell hS mJ (i := 1) rfl
            refine wpAt_of rfl rfl ?_
            simp only [frOf, Act.put]
            go_wp2_with fail
            first | exact ⟨trivial, rfl, trivial, hS⟩ | exact ⟨rfl, trivial, hS⟩
          · have c0 : W.cell? ⟨w2.heap.size, 0, none⟩ = some (.int .i64 u0) := HeldL.cell hS mC (i := 0) rfl
            have c1 : W.cell? ⟨w2.heap.size, 1, none⟩ = some (.int .i64 u1) := HeldL.cell hS mC (i := 1) rfl
            refine wpAt_of rfl rfl ?_
            simp only [frOf, Act.put]
            go_wp2_with fail
            first | exact ⟨trivial, rfl, trivial, hS⟩ | exact ⟨rfl, trivial, hS⟩
          · have k0 : vals 0 = .agg #[.int .i64 jl, .int .i64 jh] := hφ 0 (hd 0 (by decide))
            have k1 : vals 1 = .agg #[.int .i64 u0, .int .i64 u1] := hφ 1 (hd 1 (by decide))
            refine wpAt_of rfl rfl ?_
            simp only [frOf, Act.put]
            go_wp2_with fail
            refine (joinI_is _ _ _ _ _ _ _ (by first | exact f1.out | exact f3.out | exact f5.out) (by first | exact f2.out | exact f4.out | exact f6.out)).mono ?_
            rintro e W' ⟨rfl, hb⟩
            go_wp2_with fail
            first | exact ⟨trivial, rfl, trivial, HeldL.next hb hS⟩ | exact ⟨rfl, trivial, HeldL.next hb hS⟩
          · have c0 : W.cell? ⟨w1.heap.size, 0, none⟩ = some (.int .i64 x0) := HeldL.cell hS mA (i := 0) rfl
            have c1 : W.cell? ⟨w1.heap.size, 1, none⟩ = some (.int .i64 x1) := HeldL.cell hS mA (i := 1) rfl
            refine wpAt_of rfl rfl ?_
            simp only [frOf, Act.put]
            go_wp2_with fail
            first | exact ⟨trivial, rfl, trivial, hS⟩ | exact ⟨rfl, trivial, hS⟩
          · have c0 : W.cell? ⟨w1.heap.size + 1, 0, none⟩ = some (.int .i64 y0) := HeldL.cell hS mB (i := 0) rfl
            have c1 : W.cell? ⟨w1.heap.size + 1, 1, none⟩ = some (.int .i64 y1) := HeldL.cell hS mB (i := 1) rfl
            refine wpAt_of rfl rfl ?_
            simp only [frOf, Act.put]
            go_wp2_with fail
            first | exact ⟨trivial, rfl, trivial, hS⟩ | exact ⟨rfl, trivial, hS⟩
          · have c0 : W.cell? ⟨w2.heap.size, 0, none⟩ = some (.int .i64 u0) := HeldL.cell hS mC (i := 0) rfl
            have c1 : W.cell? ⟨w2.heap.size, 1, none⟩ = some (.int .i64 u1) := HeldL.cell hS mC (i := 1) rfl
            refine wpAt_of rfl rfl ?_
            simp only [frOf, Act.put]
            go_wp2_with fail
            first | exact ⟨trivial, rfl, trivial, hS⟩ | exact ⟨rfl, trivial, hS⟩
          · have k4 : vals 4 = .agg #[.int .i64 y0, .int .i64 y1] := hφ 4 (hd 4 (by decide))
            have k5 : vals 5 = .agg #[.int .i64 u0, .int .i64 u1] := hφ 5 (hd 5 (by decide))
            refine wpAt_of rfl rfl ?_
            simp only [frOf, Act.put]
            go_wp2_with fail
            refine (joinI_is _ _ _ _ _ _ _ (by first | exact f1.out | exact f3.out | exact f5.out) (by first | exact f2.out | exact f4.out | exact f6.out)).mono ?_
            rintro e W' ⟨rfl, hb⟩
            go_wp2_with fail
            first | exact ⟨trivial, rfl, trivial, HeldL.next hb hS⟩ | exact ⟨rfl, trivial, HeldL.next hb hS⟩
          · have k3 : vals 3 = .agg #[.int .i64 x0, .int .i64 x1] := hφ 3 (hd 3 (by decide))
            have k6 : vals 6 = .agg #[.int .i64 ql, .int .i64 qh] := hφ 6 (hd 6 (by decide))
            refine wpAt_of rfl rfl ?_
            simp only [frOf, Act.put]
            go_wp2_with fail
            refine (joinI_is _ _ _ _ _ _ _ (by first | exact f1.out | exact f3.out | exact f5.out) (by first | exact f2.out | exact f4.out | exact f6.out)).mono ?_
            rintro e W' ⟨rfl, hb⟩
            go_wp2_with fail
            first | exact ⟨trivial, rfl, trivial, HeldL.next hb hS⟩ | exact ⟨rfl, trivial, HeldL.next hb hS⟩
          · have k2 : vals 2 = .agg #[.int .i64 pl, .int .i64 ph] := hφ 2 (hd 2 (by decide))
            have k7 : vals 7 = .agg #[.int .i64 pl, .int .i64 ph] := hφ 7 (hd 7 (by decide))
            refine wpAt_of rfl rfl ?_
            simp only [frOf, Act.put]
            go_wp2_with fail
            first | exact ⟨trivial, rfl, trivial, hS⟩ | exact ⟨rfl, trivial, hS⟩
          · have k8 : vals 8 = .bool true := hφ 8 (hd 8 (by decide))
            refine wpAt_of rfl rfl ?_
            simp only [frOf, Act.put]
            go_wp2_with fail
            first | exact ⟨trivial, rfl, trivial, hS⟩ | exact ⟨rfl, trivial, hS⟩
        · intro L vals W hall hφ hS
          have k0 : vals 0 = .agg #[.int .i64 jl, .int .i64 jh] := hφ 0 (by decide)
          have k1 : vals 1 = .agg #[.int .i64 u0, .int .i64 u1] := hφ 1 (by decide)
          have k2 : vals 2 = .agg #[.int .i64 pl, .int .i64 ph] := hφ 2 (by decide)
          have k3 : vals 3 = .agg #[.int .i64 x0, .int .i64 x1] := hφ 3 (by decide)
          have k4 : vals 4 = .agg #[.int .i64 y0, .int .i64 y1] := hφ 4 (by decide)
          have k5 : vals 5 = .agg #[.int .i64 u0, .int .i64 u1] := hφ 5 (by decide)
          have k6 : vals 6 = .agg #[.int .i64 ql, .int .i64 qh] := hφ 6 (by decide)
          have k7 : vals 7 = .agg #[.int .i64 pl, .int .i64 ph] := hφ 7 (by decide)
          have k8 : vals 8 = .bool true := hφ 8 (by decide)
          have k9 : vals 9 = .bool true := hφ 9 (by decide)
          simp only [frOf, Act.put, List.setIfInBounds_toArray, List.set_cons_succ, List.set_cons_zero, k0, k1, k2, k3, k4, k5, k6, k7, k8, k9]
          clear k0 k1 k2 k3 k4 k5 k6 k7 k8 k9
          clear hall hφ
          go_wp2_with fail
          go_ret
          exact ⟨rfl, hS.below⟩
      have d2 : w8.cell? ⟨w2.heap.size, 0, none⟩ = some (.int .i64 u0) := hS8.cell mC (i := 0) rfl
      have d3 : w8.cell? ⟨w2.heap.size, 1, none⟩ = some (.int .i64 u1) := hS8.cell mC (i := 1) rfl
      have d4 : w8.cell? ⟨w1.heap.size + 1, 0, none⟩ = some (.int .i64 y0) := hS8.cell mB (i := 0) rfl
      have d5 : w8.cell? ⟨w1.heap.size + 1, 1, none⟩ = some (.int .i64 y1) := hS8.cell mB (i := 1) rfl
      go_wp2_with fail
      refine (itvInI _ _ _ _ _).mono ?_
      rintro e w9 ⟨rfl, b9⟩
      have hS9 := hS8.next b9
      clear d2 d3 d4 d5 b9 hS8
      cases iBC : itvIn y0 y1 u0 u1
      · have hS0 : HeldL w Lb w9.drew := hS9.drew
        go_wp2_with fail
        refine region_inv3 [(0, 85), (1, 86), (2, 87), (3, 88), (4, 89), (5, 90), (6, 91), (7, 92), (8, 93), (9, 4)]
          (fun j v _ => match j with
            | 0 => Is (.agg #[.int .i64 jl, .int .i64 jh]) v
            | 1 => Is (.agg #[.int .i64 u0, .int .i64 u1]) v
            | 2 => Is (.agg #[.int .i64 pl, .int .i64 ph]) v
            | 3 => Is (.agg #[.int .i64 x0, .int .i64 x1]) v
            | 4 => Is (.agg #[.int .i64 y0, .int .i64 y1]) v
            | 5 => Is (.agg #[.int .i64 u0, .int .i64 u1]) v
            | 6 => Is (.agg #[.int .i64 ql, .int .i64 qh]) v
            | 7 => Is (.agg #[.int .i64 pl, .int .i64 ph]) v
            | 8 => Is (.bool true) v
            | 9 => Is (.bool true) v
            | _ => True)
          (fun _ W => HeldL w Lb W) TT
          (by kernel_rfl) (by kernel_rfl) (by kernel_rfl) (by kernel_rfl) (by kernel_rfl) rfl hS0 (fun i j v W W' _ h _ => h) ?_ ?_
        · intro i L vals W hi' hφ hS hL hd
          have hi2 : i < 10 := hi'
          rcases (show i = 0 ∨ i = 1 ∨ i = 2 ∨ i = 3 ∨ i = 4 ∨ i = 5 ∨ i = 6 ∨ i = 7 ∨ i = 8 ∨ i = 9 by omega) with rfl | rfl | rfl | rfl | rfl | rfl | rfl | rfl | rfl | rfl
          · have c0 : W.cell? ⟨w3.heap.size, 0, none⟩ = some (.int .i64 jl) := HeldL.cell hS mJ (i := 0) rfl
            have c1 : W.cell? ⟨w3.heap.size, 1, none⟩ = some (.int .i64 jh) := HeldL.cell hS mJ (i := 1) rfl
            refine wpAt_of rfl rfl ?_
            simp only [frOf, Act.put]
            go_wp2_with fail
            first | exact ⟨trivial, rfl, trivial, hS⟩ | exact ⟨rfl, trivial, hS⟩
          · have c0 : W.cell? ⟨w2.heap.size, 0, none⟩ = some (.int .i64 u0) := HeldL.cell hS mC (i := 0) rfl
            have c1 : W.cell? ⟨w2.heap.size, 1, none⟩ = some (.int .i64 u1) := HeldL.cell hS mC (i := 1) rfl
            refine wpAt_of rfl rfl ?_
            simp only [frOf, Act.put]
            go_wp2_with fail
            first | exact ⟨trivial, rfl, trivial, hS⟩ | exact ⟨rfl, trivial, hS⟩
          · have k0 : vals 0 = .agg #[.int .i64 jl, .int .i64 jh] := hφ 0 (hd 0 (by decide))
            have k1 : vals 1 = .agg #[.int .i64 u0, .int .i64 u1] := hφ 1 (hd 1 (by decide))
            refine wpAt_of rfl rfl ?_
            simp only [frOf, Act.put]
            go_wp2_with fail
            refine (joinI_is _ _ _ _ _ _ _ (by first | exact f1.out | exact f3.out | exact f5.out) (by first | exact f2.out | exact f4.out | exact f6.out)).mono ?_
            rintro e W' ⟨rfl, hb⟩
            go_wp2_with fail
            first | exact ⟨trivial, rfl, trivial, HeldL.next hb hS⟩ | exact ⟨rfl, trivial, HeldL.next hb hS⟩
          · have c0 : W.cell? ⟨w1.heap.size, 0, none⟩ = some (.int .i64 x0) := HeldL.cell hS mA (i := 0) rfl
            have c1 : W.cell? ⟨w1.heap.size, 1, none⟩ = some (.int .i64 x1) := HeldL.cell hS mA (i := 1) rfl
            refine wpAt_of rfl rfl ?_
            simp only [frOf, Act.put]
            go_wp2_with fail
            first | exact ⟨trivial, rfl, trivial, hS⟩ | exact ⟨rfl, trivial, hS⟩
          · have c0 : W.cell? ⟨w1.heap.size + 1, 0, none⟩ = some (.int .i64 y0) := HeldL.cell hS mB (i := 0) rfl
            have c1 : W.cell? ⟨w1.heap.size + 1, 1, none⟩ = some (.int .i64 y1) := HeldL.cell hS mB (i := 1) rfl
            refine wpAt_of rfl rfl ?_
            simp only [frOf, Act.put]
            go_wp2_with fail
            first | exact ⟨trivial, rfl, trivial, hS⟩ | exact ⟨rfl, trivial, hS⟩
          · have c0 : W.cell? ⟨w2.heap.size, 0, none⟩ = some (.int .i64 u0) := HeldL.cell hS mC (i := 0) rfl
            have c1 : W.cell? ⟨w2.heap.size, 1, none⟩ = some (.int .i64 u1) := HeldL.cell hS mC (i := 1) rfl
            refine wpAt_of rfl rfl ?_
            simp only [frOf, Act.put]
            go_wp2_with fail
            first | exact ⟨trivial, rfl, trivial, hS⟩ | exact ⟨rfl, trivial, hS⟩
          · have k4 : vals 4 = .agg #[.int .i64 y0, .int .i64 y1] := hφ 4 (hd 4 (by decide))
            have k5 : vals 5 = .agg #[.int .i64 u0, .int .i64 u1] := hφ 5 (hd 5 (by decide))
            refine wpAt_of rfl rfl ?_
            simp only [frOf, Act.put]
            go_wp2_with fail
            refine (joinI_is _ _ _ _ _ _ _ (by first | exact f1.out | exact f3.out | exact f5.out) (by first | exact f2.out | exact f4.out | exact f6.out)).mono ?_
            rintro e W' ⟨rfl, hb⟩
            go_wp2_with fail
            first | exact ⟨trivial, rfl, trivial, HeldL.next hb hS⟩ | exact ⟨rfl, trivial, HeldL.next hb hS⟩
          · have k3 : vals 3 = .agg #[.int .i64 x0, .int .i64 x1] := hφ 3 (hd 3 (by decide))
            have k6 : vals 6 = .agg #[.int .i64 ql, .int .i64 qh] := hφ 6 (hd 6 (by decide))
            refine wpAt_of rfl rfl ?_
            simp only [frOf, Act.put]
            go_wp2_with fail
            refine (joinI_is _ _ _ _ _ _ _ (by first | exact f1.out | exact f3.out | exact f5.out) (by first | exact f2.out | exact f4.out | exact f6.out)).mono ?_
            rintro e W' ⟨rfl, hb⟩
            go_wp2_with fail
            first | exact ⟨trivial, rfl, trivial, HeldL.next hb hS⟩ | exact ⟨rfl, trivial, HeldL.next hb hS⟩
          · have k2 : vals 2 = .agg #[.int .i64 pl, .int .i64 ph] := hφ 2 (hd 2 (by decide))
            have k7 : vals 7 = .agg #[.int .i64 pl, .int .i64 ph] := hφ 7 (hd 7 (by decide))
            refine wpAt_of rfl rfl ?_
            simp only [frOf, Act.put]
            go_wp2_with fail
            first | exact ⟨trivial, rfl, trivial, hS⟩ | exact ⟨rfl, trivial, hS⟩
          · have k8 : vals 8 = .bool true := hφ 8 (hd 8 (by decide))
            refine wpAt_of rfl rfl ?_
            simp only [frOf, Act.put]
            go_wp2_with fail
            first | exact ⟨trivial, rfl, trivial, hS⟩ | exact ⟨rfl, trivial, hS⟩
        · intro L vals W hall hφ hS
          have k0 : vals 0 = .agg #[.int .i64 jl, .int .i64 jh] := hφ 0 (by decide)
          have k1 : vals 1 = .agg #[.int .i64 u0, .int .i64 u1] := hφ 1 (by decide)
          have k2 : vals 2 = .agg #[.int .i64 pl, .int .i64 ph] := hφ 2 (by decide)
          have k3 : vals 3 = .agg #[.int .i64 x0, .int .i64 x1] := hφ 3 (by decide)
          have k4 : vals 4 = .agg #[.int .i64 y0, .int .i64 y1] := hφ 4 (by decide)
          have k5 : vals 5 = .agg #[.int .i64 u0, .int .i64 u1] := hφ 5 (by decide)
          have k6 : vals 6 = .agg #[.int .i64 ql, .int .i64 qh] := hφ 6 (by decide)
          have k7 : vals 7 = .agg #[.int .i64 pl, .int .i64 ph] := hφ 7 (by decide)
          have k8 : vals 8 = .bool true := hφ 8 (by decide)
          have k9 : vals 9 = .bool true := hφ 9 (by decide)
          simp only [frOf, Act.put, List.setIfInBounds_toArray, List.set_cons_succ, List.set_cons_zero, k0, k1, k2, k3, k4, k5, k6, k7, k8, k9]
          clear k0 k1 k2 k3 k4 k5 k6 k7 k8 k9
          clear hall hφ
          go_wp2_with fail
          go_ret
          exact ⟨rfl, hS.below⟩
      have iJC := join_least iAC iBC
      rw [hjl.out, hjh.out] at iJC
      have d2 : w9.cell? ⟨w2.heap.size, 0, none⟩ = some (.int .i64 u0) := hS9.cell mC (i := 0) rfl
      have d3 : w9.cell? ⟨w2.heap.size, 1, none⟩ = some (.int .i64 u1) := hS9.cell mC (i := 1) rfl
      have d4 : w9.cell? ⟨w3.heap.size, 0, none⟩ = some (.int .i64 jl) := hS9.cell mJ (i := 0) rfl
      have d5 : w9.cell? ⟨w3.heap.size, 1, none⟩ = some (.int .i64 jh) := hS9.cell mJ (i := 1) rfl
      go_wp2_with fail
      refine (itvInI _ _ _ _ _).mono ?_
      rintro e w10 ⟨rfl, b10⟩
      rw [iJC]
      have hS10 := hS9.next b10
      clear d2 d3 d4 d5 b10 hS9
      have hS0 : HeldL w Lb w10.drew := hS10.drew
      go_wp2_with fail
      refine region_inv3 [(0, 85), (1, 86), (2, 87), (3, 88), (4, 89), (5, 90), (6, 91), (7, 92), (8, 93), (9, 4)]
        (fun j v _ => match j with
          | 0 => Is (.agg #[.int .i64 jl, .int .i64 jh]) v
          | 1 => Is (.agg #[.int .i64 u0, .int .i64 u1]) v
          | 2 => Is (.agg #[.int .i64 pl, .int .i64 ph]) v
          | 3 => Is (.agg #[.int .i64 x0, .int .i64 x1]) v
          | 4 => Is (.agg #[.int .i64 y0, .int .i64 y1]) v
          | 5 => Is (.agg #[.int .i64 u0, .int .i64 u1]) v
          | 6 => Is (.agg #[.int .i64 ql, .int .i64 qh]) v
          | 7 => Is (.agg #[.int .i64 pl, .int .i64 ph]) v
          | 8 => Is (.bool true) v
          | 9 => Is (.bool true) v
          | _ => True)
        (fun _ W => HeldL w Lb W) TT
        (by kernel_rfl) (by kernel_rfl) (by kernel_rfl) (by kernel_rfl) (by kernel_rfl) rfl hS0 (fun i j v W W' _ h _ => h) ?_ ?_
      · intro i L vals W hi' hφ hS hL hd
        have hi2 : i < 10 := hi'
        rcases (show i = 0 ∨ i = 1 ∨ i = 2 ∨ i = 3 ∨ i = 4 ∨ i = 5 ∨ i = 6 ∨ i = 7 ∨ i = 8 ∨ i = 9 by omega) with rfl | rfl | rfl | rfl | rfl | rfl | rfl | rfl | rfl | rfl
        · have c0 : W.cell? ⟨w3.heap.size, 0, none⟩ = some (.int .i64 jl) := HeldL.cell hS mJ (i := 0) rfl
          have c1 : W.cell? ⟨w3.heap.size, 1, none⟩ = some (.int .i64 jh) := HeldL.cell hS mJ (i := 1) rfl
          refine wpAt_of rfl rfl ?_
          simp only [frOf, Act.put]
          go_wp2_with fail
          first | exact ⟨trivial, rfl, trivial, hS⟩ | exact ⟨rfl, trivial, hS⟩
        · have c0 : W.cell? ⟨w2.heap.size, 0, none⟩ = some (.int .i64 u0) := HeldL.cell hS mC (i := 0) rfl
          have c1 : W.cell? ⟨w2.heap.size, 1, none⟩ = some (.int .i64 u1) := HeldL.cell hS mC (i := 1) rfl
          refine wpAt_of rfl rfl ?_
          simp only [frOf, Act.put]
          go_wp2_with fail
          first | exact ⟨trivial, rfl, trivial, hS⟩ | exact ⟨rfl, trivial, hS⟩
        · have k0 : vals 0 = .agg #[.int .i64 jl, .int .i64 jh] := hφ 0 (hd 0 (by decide))
          have k1 : vals 1 = .agg #[.int .i64 u0, .int .i64 u1] := hφ 1 (hd 1 (by decide))
          refine wpAt_of rfl rfl ?_
          simp only [frOf, Act.put]
          go_wp2_with fail
          refine (joinI_is _ _ _ _ _ _ _ (by first | exact f1.out | exact f3.out | exact f5.out) (by first | exact f2.out | exact f4.out | exact f6.out)).mono ?_
          rintro e W' ⟨rfl, hb⟩
          go_wp2_with fail
          first | exact ⟨trivial, rfl, trivial, HeldL.next hb hS⟩ | exact ⟨rfl, trivial, HeldL.next hb hS⟩
        · have c0 : W.cell? ⟨w1.heap.size, 0, none⟩ = some (.int .i64 x0) := HeldL.cell hS mA (i := 0) rfl
          have c1 : W.cell? ⟨w1.heap.size, 1, none⟩ = some (.int .i64 x1) := HeldL.cell hS mA (i := 1) rfl
          refine wpAt_of rfl rfl ?_
          simp only [frOf, Act.put]
          go_wp2_with fail
          first | exact ⟨trivial, rfl, trivial, hS⟩ | exact ⟨rfl, trivial, hS⟩
        · have c0 : W.cell? ⟨w1.heap.size + 1, 0, none⟩ = some (.int .i64 y0) := HeldL.cell hS mB (i := 0) rfl
          have c1 : W.cell? ⟨w1.heap.size + 1, 1, none⟩ = some (.int .i64 y1) := HeldL.cell hS mB (i := 1) rfl
          refine wpAt_of rfl rfl ?_
          simp only [frOf, Act.put]
          go_wp2_with fail
          first | exact ⟨trivial, rfl, trivial, hS⟩ | exact ⟨rfl, trivial, hS⟩
        · have c0 : W.cell? ⟨w2.heap.size, 0, none⟩ = some (.int .i64 u0) := HeldL.cell hS mC (i := 0) rfl
          have c1 : W.cell? ⟨w2.heap.size, 1, none⟩ = some (.int .i64 u1) := HeldL.cell hS mC (i := 1) rfl
          refine wpAt_of rfl rfl ?_
          simp only [frOf, Act.put]
          go_wp2_with fail
          first | exact ⟨trivial, rfl, trivial, hS⟩ | exact ⟨rfl, trivial, hS⟩
        · have k4 : vals 4 = .agg #[.int .i64 y0, .int .i64 y1] := hφ 4 (hd 4 (by decide))
          have k5 : vals 5 = .agg #[.int .i64 u0, .int .i64 u1] := hφ 5 (hd 5 (by decide))
          refine wpAt_of rfl rfl ?_
          simp only [frOf, Act.put]
          go_wp2_with fail
          refine (joinI_is _ _ _ _ _ _ _ (by first | exact f1.out | exact f3.out | exact f5.out) (by first | exact f2.out | exact f4.out | exact f6.out)).mono ?_
          rintro e W' ⟨rfl, hb⟩
          go_wp2_with fail
          first | exact ⟨trivial, rfl, trivial, HeldL.next hb hS⟩ | exact ⟨rfl, trivial, HeldL.next hb hS⟩
        · have k3 : vals 3 = .agg #[.int .i64 x0, .int .i64 x1] := hφ 3 (hd 3 (by decide))
          have k6 : vals 6 = .agg #[.int .i64 ql, .int .i64 qh] := hφ 6 (hd 6 (by decide))
          refine wpAt_of rfl rfl ?_
          simp only [frOf, Act.put]
          go_wp2_with fail
          refine (joinI_is _ _ _ _ _ _ _ (by first | exact f1.out | exact f3.out | exact f5.out) (by first | exact f2.out | exact f4.out | exact f6.out)).mono ?_
          rintro e W' ⟨rfl, hb⟩
          go_wp2_with fail
          first | exact ⟨trivial, rfl, trivial, HeldL.next hb hS⟩ | exact ⟨rfl, trivial, HeldL.next hb hS⟩
        · have k2 : vals 2 = .agg #[.int .i64 pl, .int .i64 ph] := hφ 2 (hd 2 (by decide))
          have k7 : vals 7 = .agg #[.int .i64 pl, .int .i64 ph] := hφ 7 (hd 7 (by decide))
          refine wpAt_of rfl rfl ?_
          simp only [frOf, Act.put]
          go_wp2_with fail
          first | exact ⟨trivial, rfl, trivial, hS⟩ | exact ⟨rfl, trivial, hS⟩
        · have k8 : vals 8 = .bool true := hφ 8 (hd 8 (by decide))
          refine wpAt_of rfl rfl ?_
          simp only [frOf, Act.put]
          go_wp2_with fail
          first | exact ⟨trivial, rfl, trivial, hS⟩ | exact ⟨rfl, trivial, hS⟩
      · intro L vals W hall hφ hS
        have k0 : vals 0 = .agg #[.int .i64 jl, .int .i64 jh] := hφ 0 (by decide)
        have k1 : vals 1 = .agg #[.int .i64 u0, .int .i64 u1] := hφ 1 (by decide)
        have k2 : vals 2 = .agg #[.int .i64 pl, .int .i64 ph] := hφ 2 (by decide)
        have k3 : vals 3 = .agg #[.int .i64 x0, .int .i64 x1] := hφ 3 (by decide)
        have k4 : vals 4 = .agg #[.int .i64 y0, .int .i64 y1] := hφ 4 (by decide)
        have k5 : vals 5 = .agg #[.int .i64 u0, .int .i64 u1] := hφ 5 (by decide)
        have k6 : vals 6 = .agg #[.int .i64 ql, .int .i64 qh] := hφ 6 (by decide)
        have k7 : vals 7 = .agg #[.int .i64 pl, .int .i64 ph] := hφ 7 (by decide)
        have k8 : vals 8 = .bool true := hφ 8 (by decide)
        have k9 : vals 9 = .bool true := hφ 9 (by decide)
        simp only [frOf, Act.put, List.setIfInBounds_toArray, List.set_cons_succ, List.set_cons_zero, k0, k1, k2, k3, k4, k5, k6, k7, k8, k9]
        clear k0 k1 k2 k3 k4 k5 k6 k7 k8 k9
        clear hall hφ
        go_wp2_with fail
        go_ret
        exact ⟨rfl, hS.below⟩

theorem contract (H : Type) (enc : TypeId × Value → H) (W : World) (base : Nat) (args : Array Value) (ds gs : List (DataW H)) (before : List MemPlace)
    (hval : ∀ (j : Nat) t v, Try.f7.params[j]? = some t → args[j]? = some v → Value.okWide Try.prog W .any base t v)
    (hW : DataW.Whole enc Try.prog Try.f7.params.toList Rows.fnItvJoinSpec.vars false W args.toList ds gs before) :
    Calls Try.prog 7 args W fun e W' => ∃ v, e = .returned v ∧ Rows.fnItvJoinSpec.post enc Try.prog Try.f7 false true false false W args v W' := by
  have hW' := hW
  obtain ⟨p, q, hA0, hV, rfl, hfz, hnd⟩ := hW
  have hA : DataW.TrodAll enc Try.prog W 0 (fun _ => true) true Try.f7.params.toList args.toList ds p := hA0
  rw [Try.params7] at hA hval
  obtain ⟨v0, vs0, d0, ds0, p0, q0, hargs, rfl, rfl, h0, r0'⟩ := trodAll_cons hA
  obtain ⟨v1, vs1, d1, ds1, p1, q1, rfl, rfl, rfl, h1, r1'⟩ := trodAll_cons r0'
  obtain ⟨rfl, rfl, rfl⟩ := trodAll_nil r1'
  obtain rfl : args = #[v0, v1] := by cases args; simp_all
  obtain ⟨rfl, rfl⟩ := trodVars_none hV
  obtain ⟨a0, len0, cap0, rfl⟩ := okWide_slice Try.underlying22 (hval 0 22 v0 rfl rfl)
  have k0 := h0
  have lt0 : ∀ x ∈ p0, x.block < W.heap.size := by obtain ⟨m, hm⟩ := k0; exact DataW.trod_lt m _ _ _ hm
  obtain ⟨z0, hz0, r0⟩ : ∃ z : Nat → Int, (∀ i, 0 ≤ z i ∧ z i ≤ 255) ∧ Bytes W a0 len0 cap0 z := by
    obtain ⟨fuel, hf⟩ := h0
    rcases open_ints Try.underlying22 Try.underlying5 (by kernel_rfl) hf with ⟨hcs, _⟩ | ⟨x, l, c, zs, hcs, _, hl, hm, hz, _, hcell, hwz⟩
    · simp [Value.cells] at hcs
      obtain ⟨rfl, rfl, rfl⟩ := hcs
      exact ⟨fun _ => 0, fun _ => by simp, .inl rfl⟩
    · simp [Value.cells] at hcs
      obtain ⟨rfl, rfl, rfl⟩ := hcs
      exact bytes_of hl (by simpa using hz) hcell hwz
  obtain ⟨a1, len1, cap1, rfl⟩ := okWide_slice Try.underlying22 (hval 1 22 v1 rfl rfl)
  have k1 := h1
  have lt1 : ∀ x ∈ p1, x.block < W.heap.size := by obtain ⟨m, hm⟩ := k1; exact DataW.trod_lt m _ _ _ hm
  obtain ⟨z1, hz1, r1⟩ : ∃ z : Nat → Int, (∀ i, 0 ≤ z i ∧ z i ≤ 255) ∧ Bytes W a1 len1 cap1 z := by
    obtain ⟨fuel, hf⟩ := h1
    rcases open_ints Try.underlying22 Try.underlying5 (by kernel_rfl) hf with ⟨hcs, _⟩ | ⟨x, l, c, zs, hcs, _, hl, hm, hz, _, hcell, hwz⟩
    · simp [Value.cells] at hcs
      obtain ⟨rfl, rfl, rfl⟩ := hcs
      exact ⟨fun _ => 0, fun _ => by simp, .inl rfl⟩
    · simp [Value.cells] at hcs
      obtain ⟨rfl, rfl, rfl⟩ := hcs
      exact bytes_of hl (by simpa using hz) hcell hwz
  clear hA0
  refine (walk a0 len0 cap0 z0 a1 len1 cap1 z1 W hz0 r0 hz1 r1).mono fun e W' ⟨he, bel⟩ => ?_
  subst he
  exact ⟨_, rfl, _, _, _, [], _, [], hW', trodAll_mk1 (shut_bool Try.underlying4 _), (trodAll_cons_mk (Below.trod laidOut (by kernel_rfl) (of_decide_eq_true (by kernel_rfl)) k0 bel lt0) (trodAll_cons_mk (Below.trod laidOut (by kernel_rfl) (of_decide_eq_true (by kernel_rfl)) k1 bel lt1) trodAll_mk0)), rfl, bel.frame _, fun h => by cases h⟩

set_option maxRecDepth 100000 in
theorem lifted (os : Os) (started : os.Started) (H : Type) (enc : TypeId × Value → H) :
    ReturnsInHanded {} Try.checked os 7 .any (Rows.fnItvJoinSpec.pre6 enc Try.prog Try.f7 Rows.fnItvJoinRow.domain false) (Rows.fnItvJoinSpec.post enc Try.prog Try.f7 false true false false) := by
  refine returnsInHanded_of_change (C := Try.checked) own started (by kernel_rfl) Try.func7
    (ChangeSpec.witness6 (enc := enc) (C := Try.checked) false ⟨#[], #[.slice none 0 0, .slice none 0 0], []⟩ 8 (by kernel_rfl) (by kernel_rfl) (by kernel_rfl) (by kernel_rfl)) ?_
  intro W base args ds gs before hval hW _ _
  exact contract H enc W base args ds gs before hval hW

theorem proved : Rows.FnItvJoinSaid :=
  OpenClaim.holds_of_wide 7 Try.f7 rfl rfl rfl rfl rfl rfl rfl ⟨rfl, rfl, rfl, rfl, rfl⟩ rfl rfl rfl rfl rfl (by kernel_rfl) Try.func7 (by kernel_rfl)
    (of_decide_eq_true (by kernel_rfl)) (by unfold Func.isWrapper; first | (rw [if_pos (by decide +kernel)]; kernel_rfl) | (rw [if_neg (by decide +kernel)]; exact ⟨rfl, rfl⟩))
    (fun os started H enc _ => lifted os started H enc)
#print axioms proved
end Go.Proofs.Ytbnpbjkdigmphaa.fnItvJoin
