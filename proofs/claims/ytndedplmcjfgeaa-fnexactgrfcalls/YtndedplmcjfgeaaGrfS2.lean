/- The model's calls of a procedure, whole: l6There, l6Calls, GrfCalls. -/
import Derived.Test.YtndedplmcjfgeaaGrfS
import Derived.Test.YtndedplmcjfgeaaGrfQ
import Derived.Test.YtndedplmcjfgeaaHeld8
namespace Go.Proofs.Ytndedplmcjfgeaa
open Go.ChangeShapes Go.WideShapes Go.ChangeAt Go.RowKit

set_option maxHeartbeats 4000000 in
theorem thereS (a : Option Addr) (b off m cap : Nat) (P : Nat → Proc) (S : Nat → Spot) (proc : Int) (w : World) (hm : m ≤ 1048576) (hn : ∀ i, i < m → (P i).n ≤ 1048576) (hP : ProcsAt a b off m P S w) :
    Calls Try.prog 61 #[.agg #[.slice a m cap], .int .i64 proc] w fun e w' => e = .returned (.bool (prgOk P m && placeQ proc m)) ∧ Below w.heap.size w w' := by
  have H0 : HeldL w [(w.heap.size, [Value.slice a m cap])] (w.alloc (.cells #[.slice a m cap] 29)) := HeldL.newL (vs := [Value.slice a m cap]) (HeldL.nil w)
  have hP0 := hP.next H0.below
  clear hP
  go_enter Try.func61, Try.ntmps61
  go_wp2_with fail
  refine (prgOkS _ _ _ _ _ _ _ _ hm hn hP0).mono ?_
  rintro e w1 ⟨rfl, hb⟩
  have H1 := H0.next hb
  have c0 := H1.cell List.mem_cons_self (i := 0) rfl
  dsimp only at c0
  clear hP0 H0 hb hn
  cases g : prgOk P m
  · go_wp2_with fail
    go_ret
    exact ⟨ret_bool (by simp [g]), H1.below⟩
  · by_cases h1 : 0 ≤ proc
    · by_cases h2 : proc < (m : Int)
      · go_wp2_with fail
        go_ret
        exact ⟨ret_bool (by simp [placeQ, g]; omega), H1.below⟩
      · go_wp2_with fail
        go_ret
        exact ⟨ret_bool (by simp [placeQ, g]; omega), H1.below⟩
    · go_wp2_with fail
      go_ret
      exact ⟨ret_bool (by simp [placeQ]; omega), H1.below⟩

set_option maxRecDepth 10000 in
set_option maxHeartbeats 4000000 in
theorem callsS (a : Option Addr) (b off m cap : Nat) (P : Nat → Proc) (S : Nat → Spot) (p : Nat) (w : World) (hp : p < m) (hnn : (P p).n ≤ 10) (hP : ProcsAt a b off m P S w) :
    Calls Try.prog 62 #[.agg #[.slice a m cap], .int .i64 p] w fun e w' => ∃ v, e = .returned v ∧ Made w.heap.size v (callsTo (P p).c (P p).n) w' ∧ Below w.heap.size w w' := by
  have b0 : Below w.heap.size w (w.alloc (.cells #[.slice a m cap] 29)) := (Below.refl w.heap.size w).alloc (Nat.le_refl _) _
  have b1 : Below w.heap.size w ((w.alloc (.cells #[.slice a m cap] 29)).alloc (.cells #[] 3)) := b0.alloc (by simp) _
  have hP0 := hP.next b1
  clear hP
  have e1 := hP0.at_ (by omega)
  have c2 := hP0.code p hp
  have hC := hP0.steps p hp
  have t1 : ((p : Int)).toNat = p := by omega
  have t2 : (0 : Int) ≤ (p : Int) := by omega
  have t3 : (p : Int) < (m : Int) := by omega
  subst e1
  clear hP0
  have m0 : Made w.heap.size (.slice (some ⟨(w.alloc (.cells #[.slice (some ⟨b, off, none⟩) m cap] 29)).heap.size, 0, none⟩) 0 0) [] ((w.alloc (.cells #[.slice (some ⟨b, off, none⟩) m cap] 29)).alloc (.cells #[] 3)) := (Owns.weaken (Owns.built _ _) (by simp)).made
  obtain ⟨n, hnN⟩ : ∃ n, n = (P p).n := ⟨_, rfl⟩
  obtain ⟨cf, hcf⟩ : ∃ cf, cf = (P p).c := ⟨_, rfl⟩
  rw [← hnN] at c2 hC hnn
  rw [← hcf] at hC
  rw [← hnN, ← hcf]
  clear hnN hcf
  generalize S p = sS at c2 hC
  obtain ⟨sa, sb, so, sc⟩ := sS
  dsimp only at c2 hC
  go_enter Try.func62, Try.ntmps62
  go_wp2_with fail
  clear b0 c2
  have hsz : (w.alloc (.cells #[.slice (some ⟨b, off, none⟩) m cap] 29)).heap.size = w.heap.size + 1 := by simp
  rw [hsz] at m0
  generalize (w.alloc (.cells #[.slice (some ⟨b, off, none⟩) m cap] 29)).alloc (.cells #[] 3) = W1 at hC b1 m0 ⊢
  clear hsz
  go_loopw [5, 7] (fun v i W => ∃ (k : Nat), k ≤ n ∧ i = .int .i64 k ∧ Made w.heap.size v (callsTo cf k) W ∧ Below W1.heap.size W1 W) (fun _ i _ => n - (intOf i).toNat)
  case atStart => exact ⟨0, Nat.zero_le _, rfl, m0, Below.refl _ _⟩
  case round =>
    obtain ⟨k, hk, rfl, hM, hB⟩ := hrel
    have hs : w.heap.size ≤ wr.heap.size := Nat.le_trans b1.size hB.size
    have bw : Below w.heap.size w wr := below_tr b1 hB
    clear m0
    by_cases hlt : k < n
    · have hC' := hC.next hB
      have e2 := hC'.at_ (by omega)
      have d0 := hC'.cell k 0 hlt (by omega)
      have d7 := hC'.cell k 7 hlt (by omega)
      rw [Nat.add_zero] at d0
      have t4 : ((k : Int)).toNat = k := by omega
      have t5 : (0 : Int) ≤ (k : Int) := by omega
      have t6 : (k : Int) < (n : Int) := by omega
      have hl := callsTo_len cf k
      subst e2
      clear hC hC'
      by_cases h10 : cf k 0 = 10
      · have E : callsTo cf (k + 1) = putL (cf k 7) (callsTo cf k) := by rw [callsTo, if_pos h10]
        have ES : Hid (callsTo cf (k + 1) = putL (cf k 7) (callsTo cf k)) := E
        rw [h10] at d0
        generalize cf k 7 = x at d7 ES
        obtain ⟨a', cap', g', rfl, hL⟩ := hM
        clear E h10
        generalize callsTo cf k = zs at hL hl ES
        go_wp2_with fail
        refine (putS _ _ _ _ _ _ _ _ rfl (by omega) hL).mono ?_
        rintro e w1 ⟨v', rfl, hO, hb⟩
        have hM' : Made w.heap.size v' (putL x zs) w1 := (Owns.weaken hO hs).made
        clear hO hL d0 d7
        go_wp2_with fail
        go_roundw
        case measure => simp [intOf]; omega
        exact ⟨k + 1, by omega, by go_num, by rw [ES.out]; exact hM', below_tr hB hb⟩
      · have E : callsTo cf (k + 1) = callsTo cf k := by rw [callsTo, if_neg h10]
        have ES : Hid (callsTo cf (k + 1) = callsTo cf k) := E
        clear E
        generalize cf k 0 = x at d0 h10
        clear d7
        go_wp2_with fail
        go_roundw
        case measure => simp [intOf]; omega
        exact ⟨k + 1, by omega, by go_num, by rw [ES.out]; exact hM, hB⟩
    · obtain rfl : k = n := by omega
      clear hC
      go_wp2_with fail
      go_ret
      exact ⟨_, rfl, hM, bw⟩

set_option maxHeartbeats 4000000 in
theorem grfCallsS (a : Option Addr) (b off m cap : Nat) (P : Nat → Proc) (S : Nat → Spot) (proc : Int) (w : World) (hm : m ≤ 1048576) (hn : ∀ i, i < m → (P i).n ≤ 1048576) (hP : ProcsAt a b off m P S w) :
    Calls Try.prog 32 #[.agg #[.slice a m cap], .int .i64 proc] w fun e w' => ∃ v, e = .returned v ∧ Made w.heap.size v (grfCalls P m proc) w' ∧ Below w.heap.size w w' := by
  have H0 : HeldL w [(w.heap.size, [Value.slice a m cap])] (w.alloc (.cells #[.slice a m cap] 29)) := HeldL.newL (vs := [Value.slice a m cap]) (HeldL.nil w)
  go_enter Try.func32, Try.ntmps32
  go_wp2_with fail
  refine (thereS _ _ _ _ _ _ _ _ _ hm hn (hP.next H0.below)).mono ?_
  rintro e w1 ⟨rfl, hb⟩
  have H1 := H0.next hb
  have c0 := H1.cell List.mem_cons_self (i := 0) rfl
  dsimp only at c0
  have hs1 := H1.below.size
  clear H0 hb hn
  cases g : prgOk P m && placeQ proc m
  · have E : grfCalls P m proc = [] := by simp only [grfCalls, g]; simp
    have ES : Hid (grfCalls P m proc = []) := E
    clear E g
    go_wp2_with fail
    go_ret
    exact ⟨_, rfl, by rw [ES.out]; exact (Owns.weaken (Owns.built _ _) hs1).made, H1.below.alloc hs1 _⟩
  · have E : grfCalls P m proc = callsTo (P proc.toNat).c (P proc.toNat).n := by simp only [grfCalls, g]; simp
    have ES : Hid (grfCalls P m proc = callsTo (P proc.toNat).c (P proc.toNat).n) := E
    simp only [Bool.and_eq_true, placeQ, decide_eq_true_eq] at g
    obtain ⟨g0, g1, g2⟩ := g
    obtain ⟨p, rfl⟩ : ∃ p : Nat, proc = p := ⟨proc.toNat, by omega⟩
    have t1 : ((p : Int)).toNat = p := by omega
    have hp : p < m := by omega
    have hpn := (prg_n g0 hp).2
    rw [t1] at ES
    clear E g0 g1 g2
    go_wp2_with fail
    refine (callsS _ _ _ _ _ _ _ p _ hp hpn (hP.next H1.below)).mono ?_
    rintro e w2 ⟨v, rfl, hM, hb⟩
    have hM' := hM.weaken hs1
    have b2 := below_tr H1.below hb
    go_wp2_with fail
    go_ret
    exact ⟨_, rfl, by rw [ES.out]; exact hM', b2⟩
end Go.Proofs.Ytndedplmcjfgeaa
