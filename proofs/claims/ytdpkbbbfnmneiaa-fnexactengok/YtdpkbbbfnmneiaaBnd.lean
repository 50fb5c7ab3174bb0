/- Lists of bounds in memory, and states: bounds of variables, and of all cells together. What the laws count of them, copy, and hold against each other. -/
import Derived.Test.YtdpkbbbfnmneiaaItv
import Derived.Test.YtdpkbbbfnmneiaaRunTo
import Derived.Test.YtdpkbbbfnmneiaaRegInv
import Derived.Test.YtdpkbbbfnmneiaaDrawIs
import Derived.Deep.QuietTactic
import Derived.BigQuiet
namespace Go.Proofs.Ytdpkbbbfnmneiaa
open Go.ChangeShapes Go.WideShapes Go.ChangeAt Go.RowKit

/-- n bounds lie at a, in block b from off on. -/
structure BndsAt (a : Option Addr) (b off n : Nat) (lo hi : Nat → Int) (W : World) : Prop where
  at_ : 0 < n → a = some ⟨b, off, none⟩
  lt : 0 < n → b < W.heap.size
  lo : ∀ k, k < n → W.cell? ⟨b, off + k * 2, none⟩ = some (.int .i64 (lo k))
  hi : ∀ k, k < n → W.cell? ⟨b, off + k * 2 + 1, none⟩ = some (.int .i64 (hi k))
theorem BndsAt.next {a : Option Addr} {b off n : Nat} {lo hi : Nat → Int} {W W' : World} (h : BndsAt a b off n lo hi W) (hb : Below W.heap.size W W') : BndsAt a b off n lo hi W' :=
  ⟨h.at_, fun hn => Nat.lt_of_lt_of_le (h.lt hn) hb.size, fun k hk => (hb.cell (p := ⟨b, off + k * 2, none⟩) (h.lt (by omega))).trans (h.lo k hk), fun k hk => (hb.cell (p := ⟨b, off + k * 2 + 1, none⟩) (h.lt (by omega))).trans (h.hi k hk)⟩
theorem BndsAt.set {a : Option Addr} {b off n : Nat} {lo hi : Nat → Int} {W : World} {G o : Nat} {vs : List Value} (h : BndsAt a b off n lo hi W) (hne : b ≠ G) : BndsAt a b off n lo hi (setAll G o vs W) :=
  have k : ∀ q, (setAll G o vs W).cell? ⟨b, q, none⟩ = W.cell? ⟨b, q, none⟩ := fun q => setAll_other _ _ _ _ (fun j' _ e => hne (by injection e))
  ⟨h.at_, fun hn => Nat.lt_of_lt_of_le (h.lt hn) (setAll_below (B := 0) (w := W) (Nat.zero_le _) vs o W (Below.refl _ _)).size, fun i hi => (k _).trans (h.lo i hi), fun i hi => (k _).trans (h.hi i hi)⟩
/-- A state: whether something comes there, bounds of its variables, and of its cells. -/
structure St where
  on : Bool
  n : Nat
  lo : Nat → Int
  hi : Nat → Int
  c : Int
  d : Int
/-- The state's own value, its list at a. -/
def stV (s : St) (a : Option Addr) (cap : Nat) : Value := .agg #[.bool s.on, .slice a s.n cap, .int .i64 s.c, .int .i64 s.d]
def StAt (a : Option Addr) (b off : Nat) (s : St) (W : World) : Prop := BndsAt a b off s.n s.lo s.hi W

theorem szBnds (a : Option Addr) (n cap : Nat) (left : Int) (w : World) (hl : 0 ≤ left ∧ left ≤ 1048576) (hn : n ≤ maxLen) :
    Calls Try.prog 67 #[.slice a n cap, .int .i64 left] w fun e w' => ∃ r : Int, e = .returned (.int .i64 r) ∧ (r = -1 ∨ (r = left - n ∧ 0 ≤ r)) ∧ Below w.heap.size w w' := by
  have hw : IntKind.i64.wrap (left - (n : Int)) = left - n := by
    have : maxLen ≤ 9223372036854775807 := by decide
    simp [IntKind.wrap, IntKind.signed, IntKind.bits]; omega
  go_enter Try.func67, Try.ntmps67
  go_wp2
  all_goals go_ret
  · exact ⟨_, rfl, .inl rfl, Below.refl _ _⟩
  · exact ⟨_, rfl, .inr ⟨rfl, by omega⟩, Below.refl _ _⟩
theorem szAbs (on : Bool) (a : Option Addr) (n cap : Nat) (c d : Int) (left : Int) (w : World) (hl : 0 ≤ left ∧ left ≤ 1048576) (hn : n ≤ maxLen) :
    Calls Try.prog 33 #[.agg #[.bool on, .slice a n cap, .int .i64 c, .int .i64 d], .int .i64 left] w fun e w' => ∃ r : Int, e = .returned (.int .i64 r) ∧ (r = -1 ∨ (r = left - n ∧ 0 ≤ r)) ∧ Below w.heap.size w w' := by
  go_enter Try.func33, Try.ntmps33
  go_wp2_with fail
  refine (szBnds _ _ _ _ _ hl hn).mono ?_
  rintro e w1 ⟨r, rfl, hr, hb⟩
  have b1 := ((Below.refl w.heap.size w).alloc (Nat.le_refl _) (.cells #[.bool on, .slice a n cap, .int .i64 c, .int .i64 d] 69)).trans (hb.mono (by simp))
  rcases hr with rfl | ⟨hr, h0⟩
  · go_wp2
    go_ret
    exact ⟨_, rfl, .inl rfl, b1⟩
  · go_wp2
    all_goals go_ret
    all_goals first | (exfalso; omega) | exact ⟨_, rfl, .inr ⟨by first | rfl | exact hr, by omega⟩, b1⟩

set_option maxRecDepth 10000 in
set_option maxHeartbeats 4000000 in
theorem toBnds (a : Option Addr) (b off n cap : Nat) (lo hi : Nat → Int) (w : World) (hn : n ≤ 1048576) (hC : BndsAt a b off n lo hi w) :
    Calls Try.prog 74 #[.slice a n cap] w fun e w' => ∃ g : Nat, e = .returned (.slice (some ⟨g, 0, none⟩) n n) ∧ w.heap.size ≤ g ∧ g < w'.heap.size ∧ BndsAt (some ⟨g, 0, none⟩) g 0 n lo hi w' ∧ (∀ i, w'.frozen? ⟨g, i, none⟩ = false) ∧ Below w.heap.size w w' := by
  have hmk := fun W => make_rows (P := Try.prog) 74 75 (.agg #[.int .i64 0, .int .i64 0]) 2 16 Try.underlying74 (by kernel_rfl) n (by omega) (by omega) W
  go_enter Try.func74, Try.ntmps74
  go_wp2
  have hbel : Below w.heap.size w (w.alloc (.cells (madeCells #[.int .i64 0, .int .i64 0] (n * 2)) 75)) := (Below.refl _ _).alloc (Nat.le_refl _) _
  have hnew : ∀ i, i < n * 2 → (w.alloc (.cells (madeCells #[.int .i64 0, .int .i64 0] (n * 2)) 75)).cell? ⟨w.heap.size, i, none⟩ = some (.int .i64 0) := fun i hi => by
    rw [made_cell _ _ _ _ _ hi]
    have : i % 2 < 2 := Nat.mod_lt _ (by omega)
    rcases (show i % 2 = 0 ∨ i % 2 = 1 by omega) with h | h <;> simp [h]
  have hfr : ∀ i, (w.alloc (.cells (madeCells #[.int .i64 0, .int .i64 0] (n * 2)) 75)).frozen? ⟨w.heap.size, i, none⟩ = false := fun i => World.frozen?_alloc_new _ _ _ _
  have hsz : w.heap.size < (w.alloc (.cells (madeCells #[.int .i64 0, .int .i64 0] (n * 2)) 75)).heap.size := by simp
  generalize w.alloc (.cells (madeCells #[.int .i64 0, .int .i64 0] (n * 2)) 75) = W1 at hbel hnew hfr hsz ⊢
  clear hmk
  obtain ⟨g, hg⟩ : ∃ g, g = w.heap.size := ⟨_, rfl⟩
  rw [← hg] at hnew hfr hsz
  have hgS : Hid (g = w.heap.size) := hg
  rw [← hg]
  clear hg
  go_loopw [4] (fun i wr => ∃ k : Nat, k ≤ n ∧ i = .int .i64 k ∧ Below w.heap.size w wr ∧ g < wr.heap.size ∧ (∀ i, i < n → wr.cell? ⟨g, i * 2, none⟩ = some (.int .i64 (if i < k then lo i else 0)) ∧ wr.cell? ⟨g, i * 2 + 1, none⟩ = some (.int .i64 (if i < k then hi i else 0))) ∧ (∀ i, wr.frozen? ⟨g, i, none⟩ = false)) (fun i _ => n - (intOf i).toNat)
  case atStart => exact ⟨0, Nat.zero_le _, rfl, hbel, hsz, fun i hi => ⟨by simpa using hnew (i * 2) (by omega), by simpa using hnew (i * 2 + 1) (by omega)⟩, hfr⟩
  case round =>
    obtain ⟨k, hk, rfl, hB, hs, hc, hf⟩ := hrel
    have hcS : Hid (∀ i, i < n → wr.cell? ⟨g, i * 2, none⟩ = some (.int .i64 (if i < k then lo i else 0)) ∧ wr.cell? ⟨g, i * 2 + 1, none⟩ = some (.int .i64 (if i < k then hi i else 0))) := hc
    have hfS : Hid (∀ i, wr.frozen? ⟨g, i, none⟩ = false) := hf
    clear hc hf hnew hfr hsz hbel
    by_cases hlt : k < n
    · have hC' := hC.next hB
      have e1 := hC'.at_ (by omega)
      have d0 := hC'.lo k hlt
      have d1 := hC'.hi k hlt
      have t1 : ((k : Int)).toNat = k := by omega
      have t2 : (0 : Int) ≤ (k : Int) := by omega
      have t3 : (k : Int) < (n : Int) := by omega
      subst e1
      clear hC hC'
      go_wp2_with fail
      refine (toItv _ _ _).mono ?_
      rintro e w1 ⟨rfl, hb⟩
      have hB1 := below_tr hB hb
      have hs1 : g < w1.heap.size := Nat.lt_of_lt_of_le hs hb.size
      have q : ∀ i, w1.cell? ⟨g, i, none⟩ = wr.cell? ⟨g, i, none⟩ := fun i => hb.cell (p := ⟨g, i, none⟩) hs
      have qf : ∀ i, w1.frozen? ⟨g, i, none⟩ = false := fun i => (hb.frozen (p := ⟨g, i, none⟩) hs).trans (hfS.out i)
      have z0 : w1.cell? ⟨g, k * 2, none⟩ = some (.int .i64 0) := by rw [q, (hcS.out k hlt).1, if_neg (by omega)]
      have z1 : w1.cell? ⟨g, k * 2 + 1, none⟩ = some (.int .i64 0) := by rw [q, (hcS.out k hlt).2, if_neg (by omega)]
      have hzS : Hid (∀ j, j < 2 → (w1.cell? ⟨g, k * 2 + j, none⟩).isSome = true) := fun j hj => by
        rcases (show j = 0 ∨ j = 1 by omega) with rfl | rfl
        · rw [Nat.add_zero, z0]; rfl
        · rw [z1]; rfl
      have qS : Hid (∀ i, w1.cell? ⟨g, i, none⟩ = wr.cell? ⟨g, i, none⟩) := q
      clear q d0 d1
      go_wp2_with fail
      go_roundw
      case measure => simp [intOf]; omega
      refine ⟨k + 1, by omega, by go_num, setAll_below (by rw [hgS.out]; exact Nat.le_refl _) [.int .i64 (lo k), .int .i64 (hi k)] (k * 2) w1 hB1, by simpa [World.setCell] using hs1, fun i hi' => ?_, fun i => (setAll_frozen _ [.int .i64 (lo k), .int .i64 (hi k)] (k * 2) w1).trans (qf i)⟩
      show (setAll g (k * 2) [.int .i64 (lo k), .int .i64 (hi k)] w1).cell? _ = _ ∧ (setAll g (k * 2) [.int .i64 (lo k), .int .i64 (hi k)] w1).cell? _ = _
      by_cases h8 : i = k
      · subst h8
        rw [if_pos (by omega), if_pos (by omega)]
        exact ⟨setAll_at _ (i * 2) w1 0 (.int .i64 (lo i)) (fun j' hj' => hzS.out j' (by simpa using hj')) rfl, setAll_at _ (i * 2) w1 1 (.int .i64 (hi i)) (fun j' hj' => hzS.out j' (by simpa using hj')) rfl⟩
      · have oth : ∀ d, d < 2 → (setAll g (k * 2) [.int .i64 (lo k), .int .i64 (hi k)] w1).cell? ⟨g, i * 2 + d, none⟩ = wr.cell? ⟨g, i * 2 + d, none⟩ := fun d hd => by
          rw [setAll_other _ _ _ _ (fun j' hj' e => by
            have : j' < 2 := by simpa using hj'
            have : i * 2 + d = k * 2 + j' := by injection e
            omega), qS.out]
        have o0 := oth 0 (by omega)
        have o1 := oth 1 (by omega)
        rw [Nat.add_zero] at o0
        rw [o0, o1, (hcS.out i hi').1, (hcS.out i hi').2]
        by_cases h1 : i < k
        · rw [if_pos h1, if_pos h1, if_pos (by omega), if_pos (by omega)]; exact ⟨rfl, rfl⟩
        · rw [if_neg h1, if_neg h1, if_neg (by omega), if_neg (by omega)]; exact ⟨rfl, rfl⟩
    · obtain rfl : k = n := by omega
      go_wp2_with fail
      go_ret
      refine ⟨g, rfl, by rw [hgS.out]; exact Nat.le_refl _, hs, ⟨fun _ => rfl, fun _ => hs, fun i hi' => ?_, fun i hi' => ?_⟩, hfS.out, hB⟩
      · rw [Nat.zero_add, (hcS.out _ hi').1, if_pos hi']
      · rw [Nat.zero_add, (hcS.out _ hi').2, if_pos hi']

set_option maxHeartbeats 4000000 in
theorem toAbs (on : Bool) (a : Option Addr) (b off n cap : Nat) (lo hi : Nat → Int) (c d : Int) (w : World) (hn : n ≤ 1048576) (hC : BndsAt a b off n lo hi w) :
    Calls Try.prog 36 #[.agg #[.bool on, .slice a n cap, .int .i64 c, .int .i64 d]] w fun e w' => ∃ g : Nat, e = .returned (.agg #[.bool on, .slice (some ⟨g, 0, none⟩) n n, .int .i64 c, .int .i64 d]) ∧ w.heap.size ≤ g ∧ g < w'.heap.size ∧ BndsAt (some ⟨g, 0, none⟩) g 0 n lo hi w' ∧ (∀ i, w'.frozen? ⟨g, i, none⟩ = false) ∧ Below w.heap.size w w' := by
  have H0 : HeldL w [(w.heap.size + 1 + 1, [Value.bool on, .slice none 0 0, .int .i64 0, .int .i64 0]), (w.heap.size + 1, [Value.bool false, .slice none 0 0, .int .i64 0, .int .i64 0]), (w.heap.size, [Value.bool on, .slice a n cap, .int .i64 c, .int .i64 d])] (((w.alloc (.cells #[.bool on, .slice a n cap, .int .i64 c, .int .i64 d] 69)).alloc (.cells #[.bool false, .slice none 0 0, .int .i64 0, .int .i64 0] 77)).alloc (.cells #[.bool on, .slice none 0 0, .int .i64 0, .int .i64 0] 77)) := by
    have e1 : w.heap.size + 1 = (w.alloc (.cells #[.bool on, .slice a n cap, .int .i64 c, .int .i64 d] 69)).heap.size := by simp
    have e2 : w.heap.size + 1 + 1 = ((w.alloc (.cells #[.bool on, .slice a n cap, .int .i64 c, .int .i64 d] 69)).alloc (.cells #[.bool false, .slice none 0 0, .int .i64 0, .int .i64 0] 77)).heap.size := by simp
    rw [e2, e1]
    exact HeldL.newL (vs := [Value.bool on, .slice none 0 0, .int .i64 0, .int .i64 0]) (HeldL.newL (vs := [Value.bool false, .slice none 0 0, .int .i64 0, .int .i64 0]) (HeldL.newL (vs := [Value.bool on, .slice a n cap, .int .i64 c, .int .i64 d]) (HeldL.nil w)))
  have ne2 : ∀ e ∈ [(w.heap.size + 1, [Value.bool false, .slice none 0 0, .int .i64 0, .int .i64 0]), (w.heap.size, [Value.bool on, .slice a n cap, .int .i64 c, .int .i64 d])], e.1 ≠ w.heap.size + 1 + 1 := by intro e he; simp at he; rcases he with rfl | rfl <;> dsimp only <;> omega
  have I0 := hC.next H0.below
  clear hC
  go_enter Try.func36, Try.ntmps36
  go_wp2_with fail
  refine (toBnds _ _ _ _ _ _ _ _ hn I0).mono ?_
  rintro e w1 ⟨g, rfl, hg, hg1, hK, hfK, hb⟩
  have H1 := H0.next hb
  have gg : w.heap.size + 1 + 1 + 1 ≤ g := by simpa using hg
  clear H0 I0 hb hg
  have x1 := H1.cell List.mem_cons_self (i := 1) rfl
  have f1 := H1.free _ List.mem_cons_self 1
  have H2 := HeldL.putI (i := 1) (x := .slice (some ⟨g, 0, none⟩) n n) (by omega) ne2 H1 (by simp)
  simp only [List.set_cons_succ, List.set_cons_zero] at H2
  have y2 := H2.cell (List.mem_cons_of_mem _ (List.mem_cons_of_mem _ List.mem_cons_self)) (i := 2) rfl
  have y3 := H2.cell (List.mem_cons_of_mem _ (List.mem_cons_of_mem _ List.mem_cons_self)) (i := 3) rfl
  dsimp only at x1 f1 y2 y3
  have hK1 : BndsAt (some ⟨g, 0, none⟩) g 0 n lo hi (w1.setCell ⟨w.heap.size + 1 + 1, 1, none⟩ (.slice (some ⟨g, 0, none⟩) n n)) := BndsAt.set (vs := [.slice (some ⟨g, 0, none⟩) n n]) hK (by omega)
  have hf1 : ∀ i, (w1.setCell ⟨w.heap.size + 1 + 1, 1, none⟩ (.slice (some ⟨g, 0, none⟩) n n)).frozen? ⟨g, i, none⟩ = false := fun i => by rw [World.frozen?_setCell]; exact hfK i
  have s1 : (w1.setCell ⟨w.heap.size + 1 + 1, 1, none⟩ (.slice (some ⟨g, 0, none⟩) n n)).heap.size = w1.heap.size := by simp [World.setCell]
  clear H1 hK hfK
  go_wp2_with fail
  refine (toItv _ _ _).mono ?_
  rintro e w2 ⟨rfl, hb'⟩
  have H3 := H2.next hb'
  have hK2 := hK1.next hb'
  have hf2 : ∀ i, w2.frozen? ⟨g, i, none⟩ = false := fun i => (hb'.frozen (p := ⟨g, i, none⟩) (by rw [s1]; exact hg1)).trans (hf1 i)
  have gs : g < w2.heap.size := Nat.lt_of_lt_of_le (by rw [s1]; exact hg1) hb'.size
  clear H2 hK1 hb' x1 f1 y2 y3 hf1
  have x2 := H3.cell List.mem_cons_self (i := 2) rfl
  have x3 := H3.cell List.mem_cons_self (i := 3) rfl
  have fB := H3.free _ List.mem_cons_self
  have H4 := HeldL.putI (i := 3) (x := .int .i64 d) (by omega) ne2 (HeldL.putI (i := 2) (x := .int .i64 c) (by omega) ne2 H3 (by simp)) (by simp)
  simp only [List.set_cons_succ, List.set_cons_zero] at H4
  have o0 := H4.cell List.mem_cons_self (i := 0) rfl
  have o1 := H4.cell List.mem_cons_self (i := 1) rfl
  have o2 := H4.cell List.mem_cons_self (i := 2) rfl
  have o3 := H4.cell List.mem_cons_self (i := 3) rfl
  have HR := H4.sub (L' := [(w.heap.size + 1, [Value.bool false, .slice none 0 0, .int .i64 0, .int .i64 0])]) (fun e he => by simp at he; subst he; simp)
  have r0 := HR.cell List.mem_cons_self (i := 0) rfl
  have r1 := HR.cell List.mem_cons_self (i := 1) rfl
  have r2 := HR.cell List.mem_cons_self (i := 2) rfl
  have r3 := HR.cell List.mem_cons_self (i := 3) rfl
  have fr := HR.free _ List.mem_cons_self
  dsimp only at x2 x3 fB o0 r0 o1 r1 o2 r2 o3 r3 fr
  obtain ⟨e0, e1, e2, e3⟩ := own4c r0 r1 r2 r3
  have bE := H4.below
  clear H3 HR
  go_wp2_with fail
  refine bodyPost_ret (v := .agg #[.bool on, .slice (some ⟨g, 0, none⟩) n n, .int .i64 c, .int .i64 d]) (by simp [results, Try.results36, go_sem, e0, e1, e2, e3]) rfl ⟨g, rfl, by omega, ?_, ?_, ?_, ?_⟩
  · simpa [World.setCell] using gs
  · exact BndsAt.set (G := w.heap.size + 1) (o := 0) (vs := [.bool on, .slice (some ⟨g, 0, none⟩) n n, .int .i64 c, .int .i64 d]) (BndsAt.set (G := w.heap.size + 1 + 1) (o := 2) (vs := [.int .i64 c, .int .i64 d]) hK2 (by omega)) (by omega)
  · intro i; simp only [World.frozen?_setCell]; exact hf2 i
  · exact setAll_below (g := w.heap.size + 1) (by omega) [.bool on, .slice (some ⟨g, 0, none⟩) n n, .int .i64 c, .int .i64 d] 0 _ bE


set_option maxRecDepth 10000 in
set_option maxHeartbeats 8000000 in
theorem eqBnds (g h n : Nat) (lo hi : Nat → Int) (w : World) (hbig : n ≤ 1048576) (h1 : BndsAt (some ⟨g, 0, none⟩) g 0 n lo hi w) (h2 : BndsAt (some ⟨h, 0, none⟩) h 0 n lo hi w) :
    Calls Try.prog 80 #[.slice (some ⟨g, 0, none⟩) n n, .slice (some ⟨h, 0, none⟩) n n] w fun e w' => e = .returned (.bool true) ∧ Below w.heap.size w w' := by
  go_enter Try.func80, Try.ntmps80
  go_wp2
  go_loopw [5] (fun i wr => ∃ k : Nat, k ≤ n ∧ i = .int .i64 k ∧ Below w.heap.size w wr) (fun i _ => n - (intOf i).toNat)
  case atStart => exact ⟨0, Nat.zero_le _, rfl, Below.refl _ _⟩
  case round =>
    obtain ⟨k, hk, rfl, hB⟩ := hrel
    by_cases hlt : k < n
    · have t1 : ((k : Int)).toNat = k := by omega
      have t2 : (0 : Int) ≤ (k : Int) := by omega
      have t3 : (k : Int) < (n : Int) := by omega
      have hS0 : Below w.heap.size w wr.drew := hB.drew
      clear hB
      go_wp2_with fail
      refine region_inv3 [(0, 17), (1, 18), (2, 19), (3, 20), (4, 21), (5, 22), (6, 23), (7, 24), (8, 25), (9, 26)]
        (fun j vx _ => match j with
          | 0 => Is (.slice (some ⟨g, 0, none⟩) n n) vx
          | 1 => Is (.int .i64 k) vx
          | 2 => Is (.pointer (some ⟨g, k * 2, none⟩)) vx
          | 3 => Is (.agg #[.int .i64 (lo k), .int .i64 (hi k)]) vx
          | 4 => Is (.slice (some ⟨h, 0, none⟩) n n) vx
          | 5 => Is (.int .i64 k) vx
          | 6 => Is (.pointer (some ⟨h, k * 2, none⟩)) vx
          | 7 => Is (.agg #[.int .i64 (lo k), .int .i64 (hi k)]) vx
          | 8 => Is (.bool true) vx
          | 9 => Is (.bool false) vx
          | _ => True)
        (fun _ W => Below w.heap.size w W) TT
        (by kernel_rfl) (by kernel_rfl) (by kernel_rfl) (by kernel_rfl) (by kernel_rfl) rfl hS0 (fun i j v W W' _ h _ => h) ?_ ?_
      · intro i L vals W hi' hφ hS hL hd
        have hi2 : i < 10 := hi'
        clear hi'
        rcases (show i = 0 ∨ i = 1 ∨ i = 2 ∨ i = 3 ∨ i = 4 ∨ i = 5 ∨ i = 6 ∨ i = 7 ∨ i = 8 ∨ i = 9 by omega) with rfl | rfl | rfl | rfl | rfl | rfl | rfl | rfl | rfl | rfl
        · refine wpAt_of rfl rfl ?_
          simp only [frOf, Act.put]
          go_wp2_with fail
          first | exact ⟨trivial, rfl, trivial, hS⟩ | exact ⟨rfl, trivial, hS⟩
        · refine wpAt_of rfl rfl ?_
          simp only [frOf, Act.put]
          go_wp2_with fail
          first | exact ⟨trivial, rfl, trivial, hS⟩ | exact ⟨rfl, trivial, hS⟩
        · have k0 : vals 0 = .slice (some ⟨g, 0, none⟩) n n := hφ 0 (hd 0 (by decide))
          have k1 : vals 1 = .int .i64 k := hφ 1 (hd 1 (by decide))
          refine wpAt_of rfl rfl ?_
          simp only [frOf, Act.put]
          go_wp2_with fail
          first | exact ⟨trivial, rfl, trivial, hS⟩ | exact ⟨rfl, trivial, hS⟩
        · have k2 : vals 2 = .pointer (some ⟨g, k * 2, none⟩) := hφ 2 (hd 2 (by decide))
          have dd := h1.next hS
          have d0 := dd.lo k hlt
          have d1 := dd.hi k hlt
          rw [Nat.zero_add] at d0 d1
          clear dd
          refine wpAt_of rfl rfl ?_
          simp only [frOf, Act.put]
          go_wp2_with fail
          first | exact ⟨trivial, rfl, trivial, hS⟩ | exact ⟨rfl, trivial, hS⟩ | exact ⟨trivial, rfl, trivial⟩ | exact ⟨rfl, trivial⟩ | exact rfl
        · refine wpAt_of rfl rfl ?_
          simp only [frOf, Act.put]
          go_wp2_with fail
          first | exact ⟨trivial, rfl, trivial, hS⟩ | exact ⟨rfl, trivial, hS⟩
        · refine wpAt_of rfl rfl ?_
          simp only [frOf, Act.put]
          go_wp2_with fail
          first | exact ⟨trivial, rfl, trivial, hS⟩ | exact ⟨rfl, trivial, hS⟩
        · have k4 : vals 4 = .slice (some ⟨h, 0, none⟩) n n := hφ 4 (hd 4 (by decide))
          have k5 : vals 5 = .int .i64 k := hφ 5 (hd 5 (by decide))
          refine wpAt_of rfl rfl ?_
          simp only [frOf, Act.put]
          go_wp2_with fail
          first | exact ⟨trivial, rfl, trivial, hS⟩ | exact ⟨rfl, trivial, hS⟩
        · have k6 : vals 6 = .pointer (some ⟨h, k * 2, none⟩) := hφ 6 (hd 6 (by decide))
          have dd := h2.next hS
          have d0 := dd.lo k hlt
          have d1 := dd.hi k hlt
          rw [Nat.zero_add] at d0 d1
          clear dd
          refine wpAt_of rfl rfl ?_
          simp only [frOf, Act.put]
          go_wp2_with fail
          first | exact ⟨trivial, rfl, trivial, hS⟩ | exact ⟨rfl, trivial, hS⟩ | exact ⟨trivial, rfl, trivial⟩ | exact ⟨rfl, trivial⟩ | exact rfl
        · have k3 : vals 3 = .agg #[.int .i64 (lo k), .int .i64 (hi k)] := hφ 3 (hd 3 (by decide))
          have k7 : vals 7 = .agg #[.int .i64 (lo k), .int .i64 (hi k)] := hφ 7 (hd 7 (by decide))
          refine wpAt_of rfl rfl ?_
          simp only [frOf, Act.put]
          go_wp2_with fail
          refine (eqItv _ _ _ _ _).mono ?_
          rintro e W' ⟨rfl, hb⟩
          simp only [beq_self_eq_true, Bool.and_self]
          go_wp2_with fail
          first | exact ⟨trivial, rfl, trivial, below_tr hS hb⟩ | exact ⟨rfl, trivial, below_tr hS hb⟩
        · have k8 : vals 8 = .bool true := hφ 8 (hd 8 (by decide))
          refine wpAt_of rfl rfl ?_
          simp only [frOf, Act.put]
          go_wp2_with fail
          first | exact ⟨trivial, rfl, trivial, hS⟩ | exact ⟨rfl, trivial, hS⟩
      · intro L vals W hall hφ hS
        have k0 : vals 0 = .slice (some ⟨g, 0, none⟩) n n := hφ 0 (by decide)
        have k1 : vals 1 = .int .i64 k := hφ 1 (by decide)
        have k2 : vals 2 = .pointer (some ⟨g, k * 2, none⟩) := hφ 2 (by decide)
        have k3 : vals 3 = .agg #[.int .i64 (lo k), .int .i64 (hi k)] := hφ 3 (by decide)
        have k4 : vals 4 = .slice (some ⟨h, 0, none⟩) n n := hφ 4 (by decide)
        have k5 : vals 5 = .int .i64 k := hφ 5 (by decide)
        have k6 : vals 6 = .pointer (some ⟨h, k * 2, none⟩) := hφ 6 (by decide)
        have k7 : vals 7 = .agg #[.int .i64 (lo k), .int .i64 (hi k)] := hφ 7 (by decide)
        have k8 : vals 8 = .bool true := hφ 8 (by decide)
        have k9 : vals 9 = .bool false := hφ 9 (by decide)
        simp only [frOf, Act.put, List.setIfInBounds_toArray, List.set_cons_succ, List.set_cons_zero, k0, k1, k2, k3, k4, k5, k6, k7, k8, k9]
        clear k0 k1 k2 k3 k4 k5 k6 k7 k8 k9
        clear hall hφ hS0
        go_wp2_with fail
        go_roundw
        case rel => exact ⟨k + 1, by omega, by go_num, hS⟩
        case measure => simp [intOf]; omega
    · obtain rfl : k = n := by omega
      clear h1 h2
      go_wp2_with fail
      go_ret
      exact ⟨rfl, hB⟩
set_option maxHeartbeats 2000000 in
theorem eqAbs (on : Bool) (g h n : Nat) (lo hi : Nat → Int) (c d : Int) (w : World) (hn : n ≤ 1048576) (h1 : BndsAt (some ⟨g, 0, none⟩) g 0 n lo hi w) (h2 : BndsAt (some ⟨h, 0, none⟩) h 0 n lo hi w) :
    Calls Try.prog 38 #[.agg #[.bool on, .slice (some ⟨g, 0, none⟩) n n, .int .i64 c, .int .i64 d], .agg #[.bool on, .slice (some ⟨h, 0, none⟩) n n, .int .i64 c, .int .i64 d]] w fun e w' => e = .returned (.bool true) ∧ Below w.heap.size w w' := by
  have H0 : HeldL w [(w.heap.size + 1, [Value.bool on, .slice (some ⟨h, 0, none⟩) n n, .int .i64 c, .int .i64 d]), (w.heap.size, [Value.bool on, .slice (some ⟨g, 0, none⟩) n n, .int .i64 c, .int .i64 d])] ((w.alloc (.cells #[.bool on, .slice (some ⟨g, 0, none⟩) n n, .int .i64 c, .int .i64 d] 77)).alloc (.cells #[.bool on, .slice (some ⟨h, 0, none⟩) n n, .int .i64 c, .int .i64 d] 77)) := by
    have e1 : w.heap.size + 1 = (w.alloc (.cells #[.bool on, .slice (some ⟨g, 0, none⟩) n n, .int .i64 c, .int .i64 d] 77)).heap.size := by simp
    rw [e1]
    exact HeldL.newL (vs := [Value.bool on, .slice (some ⟨h, 0, none⟩) n n, .int .i64 c, .int .i64 d]) (HeldL.newL (vs := [Value.bool on, .slice (some ⟨g, 0, none⟩) n n, .int .i64 c, .int .i64 d]) (HeldL.nil w))
  have I1 := h1.next H0.below
  have I2 := h2.next H0.below
  clear h1 h2
  go_enter Try.func38, Try.ntmps38
  go_wp2_with fail
  refine (eqBnds _ _ _ _ _ _ hn I1 I2).mono ?_
  rintro e w1 ⟨rfl, hb⟩
  have H1 := H0.next hb
  clear H0 I1 I2 hb
  have a2 := H1.cell (List.mem_cons_of_mem _ List.mem_cons_self) (i := 2) rfl
  have a3 := H1.cell (List.mem_cons_of_mem _ List.mem_cons_self) (i := 3) rfl
  have b2 := H1.cell List.mem_cons_self (i := 2) rfl
  have b3 := H1.cell List.mem_cons_self (i := 3) rfl
  dsimp only at a2 a3 b2 b3
  go_wp2_with fail
  refine (eqItv _ _ _ _ _).mono ?_
  rintro e w2 ⟨rfl, hb⟩
  have H2 := H1.next hb
  clear H1 hb a2 a3 b2 b3
  simp only [beq_self_eq_true, Bool.and_self]
  go_wp2_with fail
  go_ret
  exact ⟨rfl, H2.below⟩
end Go.Proofs.Ytdpkbbbfnmneiaa
