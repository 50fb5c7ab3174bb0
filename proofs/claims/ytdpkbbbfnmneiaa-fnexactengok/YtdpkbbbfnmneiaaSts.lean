/- Lists of states, and lists of such lists: what a paper is in memory; what the laws count of it; a paper that is handed in. -/
import Derived.Test.YtdpkbbbfnmneiaaSums
namespace Go.Proofs.Ytdpkbbbfnmneiaa
open Go.ChangeShapes Go.WideShapes Go.ChangeAt Go.RowKit

/-- n states lie at a, in block b from off on; state i's bounds where S i says. -/
structure StsAt (a : Option Addr) (b off n : Nat) (X : Nat → St) (S : Nat → Spot) (W : World) : Prop where
  at_ : 0 < n → a = some ⟨b, off, none⟩
  lt : 0 < n → b < W.heap.size
  on : ∀ i, i < n → W.cell? ⟨b, off + i * 4, none⟩ = some (.bool (X i).on)
  vars : ∀ i, i < n → W.cell? ⟨b, off + i * 4 + 1, none⟩ = some (.slice (S i).a (X i).n (S i).cap)
  c : ∀ i, i < n → W.cell? ⟨b, off + i * 4 + 2, none⟩ = some (.int .i64 (X i).c)
  d : ∀ i, i < n → W.cell? ⟨b, off + i * 4 + 3, none⟩ = some (.int .i64 (X i).d)
  bnds : ∀ i, i < n → BndsAt (S i).a (S i).b (S i).off (X i).n (X i).lo (X i).hi W
theorem StsAt.next {a : Option Addr} {b off n : Nat} {X : Nat → St} {S : Nat → Spot} {W W' : World} (h : StsAt a b off n X S W) (hb : Below W.heap.size W W') : StsAt a b off n X S W' :=
  have k : ∀ o, 0 < n → W'.cell? ⟨b, o, none⟩ = W.cell? ⟨b, o, none⟩ := fun o hn => hb.cell (p := ⟨b, o, none⟩) (h.lt hn)
  ⟨h.at_, fun hn => Nat.lt_of_lt_of_le (h.lt hn) hb.size, fun i hi => (k _ (by omega)).trans (h.on i hi), fun i hi => (k _ (by omega)).trans (h.vars i hi), fun i hi => (k _ (by omega)).trans (h.c i hi), fun i hi => (k _ (by omega)).trans (h.d i hi), fun i hi => (h.bnds i hi).next hb⟩
theorem StsAt.set {a : Option Addr} {b off n : Nat} {X : Nat → St} {S : Nat → Spot} {W : World} {G o : Nat} {vs : List Value} (h : StsAt a b off n X S W) (hne : b ≠ G) (hs : ∀ i, i < n → (S i).b ≠ G) : StsAt a b off n X S (setAll G o vs W) :=
  have k : ∀ q, (setAll G o vs W).cell? ⟨b, q, none⟩ = W.cell? ⟨b, q, none⟩ := fun q => setAll_other _ _ _ _ (fun j' _ e => hne (by injection e))
  ⟨h.at_, fun hn => Nat.lt_of_lt_of_le (h.lt hn) (setAll_below (B := 0) (w := W) (Nat.zero_le _) vs o W (Below.refl _ _)).size, fun i hi => (k _).trans (h.on i hi), fun i hi => (k _).trans (h.vars i hi), fun i hi => (k _).trans (h.c i hi), fun i hi => (k _).trans (h.d i hi), fun i hi => (h.bnds i hi).set (hs i hi)⟩
/-- A row: some states. -/
structure Rw where
  n : Nat
  x : Nat → St
/-- Where a row's states lie, and their bounds. -/
structure RSpot where
  a : Option Addr
  b : Nat
  off : Nat
  cap : Nat
  s : Nat → Spot
/-- m rows lie at a, in block b from off on. -/
structure RowsAt (a : Option Addr) (b off m : Nat) (R : Nat → Rw) (T : Nat → RSpot) (W : World) : Prop where
  at_ : 0 < m → a = some ⟨b, off, none⟩
  lt : 0 < m → b < W.heap.size
  cell : ∀ i, i < m → W.cell? ⟨b, off + i, none⟩ = some (.slice (T i).a (R i).n (T i).cap)
  row : ∀ i, i < m → StsAt (T i).a (T i).b (T i).off (R i).n (R i).x (T i).s W
theorem RowsAt.next {a : Option Addr} {b off m : Nat} {R : Nat → Rw} {T : Nat → RSpot} {W W' : World} (h : RowsAt a b off m R T W) (hb : Below W.heap.size W W') : RowsAt a b off m R T W' :=
  ⟨h.at_, fun hn => Nat.lt_of_lt_of_le (h.lt hn) hb.size, fun i hi => (hb.cell (p := ⟨b, off + i, none⟩) (h.lt (by omega))).trans (h.cell i hi), fun i hi => (h.row i hi).next hb⟩
theorem RowsAt.set {a : Option Addr} {b off m : Nat} {R : Nat → Rw} {T : Nat → RSpot} {W : World} {G o : Nat} {vs : List Value} (h : RowsAt a b off m R T W) (hne : b ≠ G) (hs : ∀ i, i < m → (T i).b ≠ G ∧ ∀ j, j < (R i).n → ((T i).s j).b ≠ G) : RowsAt a b off m R T (setAll G o vs W) :=
  ⟨h.at_, fun hn => Nat.lt_of_lt_of_le (h.lt hn) (setAll_below (B := 0) (w := W) (Nat.zero_le _) vs o W (Below.refl _ _)).size, fun i hi => (setAll_other _ _ _ _ (fun j' _ e => hne (by injection e))).trans (h.cell i hi), fun i hi => (h.row i hi).set (hs i hi).1 (hs i hi).2⟩

/-- What the first states have in all. -/
def stsTo (X : Nat → St) : Nat → Nat
  | 0 => 0
  | i + 1 => stsTo X i + (X i).n
theorem stsTo_le {X : Nat → St} {i m : Nat} (h : i < m) : (X i).n ≤ stsTo X m := by
  induction m with
  | zero => omega
  | succ m ih =>
    rcases (show i < m ∨ i = m by omega) with h' | rfl
    · have := ih h'
      simp only [stsTo]; omega
    · simp only [stsTo]; omega
def rowsTo (R : Nat → Rw) : Nat → Nat
  | 0 => 0
  | i + 1 => rowsTo R i + ((R i).n + stsTo (R i).x (R i).n)
theorem rowsTo_le {R : Nat → Rw} {i m : Nat} (h : i < m) : (R i).n + stsTo (R i).x (R i).n ≤ rowsTo R m := by
  induction m with
  | zero => omega
  | succ m ih =>
    rcases (show i < m ∨ i = m by omega) with h' | rfl
    · have := ih h'
      simp only [rowsTo]; omega
    · simp only [rowsTo]; omega

set_option maxHeartbeats 2000000 in
theorem szSts (a : Option Addr) (b off m cap : Nat) (X : Nat → St) (S : Nat → Spot) (left : Int) (w : World) (hl : 0 ≤ left ∧ left ≤ 1048576) (hm : m ≤ maxLen) (hP : StsAt a b off m X S w) (hn : ∀ i, i < m → (X i).n ≤ maxLen) :
    Calls Try.prog 83 #[.slice a m cap, .int .i64 left] w fun e w' => ∃ r : Int, e = .returned (.int .i64 r) ∧ (r = -1 ∨ (r = left - m - stsTo X m ∧ 0 ≤ r)) ∧ Below w.heap.size w w' := by
  have hw : IntKind.i64.wrap (left - (m : Int)) = left - m := by
    have : maxLen ≤ 9223372036854775807 := by decide
    simp [IntKind.wrap, IntKind.signed, IntKind.bits]; omega
  go_enter Try.func83, Try.ntmps83
  go_wp2
  · go_ret
    exact ⟨_, rfl, .inl rfl, Below.refl _ _⟩
  have hge : 0 ≤ left - (m : Int) := by first | assumption | omega
  go_loopw [1, 5] (fun q i wr => ∃ (k : Nat) (r : Int), k ≤ m ∧ i = .int .i64 k ∧ q = .int .i64 r ∧ r = left - m - stsTo X k ∧ 0 ≤ r ∧ Below w.heap.size w wr) (fun _ i _ => m - (intOf i).toNat)
  case atStart => exact ⟨0, _, Nat.zero_le _, rfl, rfl, by simp [stsTo], hge, Below.refl _ _⟩
  case round =>
    obtain ⟨k, r, hk, rfl, rfl, hr, hr0, hB⟩ := hrel
    by_cases hlt : k < m
    · have hP' := hP.next hB
      have e1 := hP'.at_ (by omega)
      have c0 := hP'.on k hlt
      have c1 := hP'.vars k hlt
      have c2 := hP'.c k hlt
      have c3 := hP'.d k hlt
      have hn' := hn k hlt
      have E : Hid (stsTo X (k + 1) = stsTo X k + (X k).n) := rfl
      have hrS : Hid (r = left - m - stsTo X k) := hr
      have t1 : ((k : Int)).toNat = k := by omega
      have t2 : (0 : Int) ≤ (k : Int) := by omega
      have t3 : (k : Int) < (m : Int) := by omega
      have hr1 : r ≤ 1048576 := by omega
      subst e1
      clear hP hP' hn hr
      generalize (X k).on = on at c0
      generalize (X k).c = c at c2
      generalize (X k).d = d at c3
      generalize hx : (X k).n = x at c1 hn' E
      clear hx
      generalize S k = s at c1
      go_wp2_with fail
      refine (szAbs _ _ _ _ _ _ _ _ ⟨hr0, hr1⟩ hn').mono ?_
      rintro e w1 ⟨q, rfl, hq, hb⟩
      have hB1 := below_tr hB hb
      rcases hq with rfl | ⟨hq, h0⟩
      · go_wp2_with fail
        go_ret
        exact ⟨_, rfl, .inl rfl, hB1⟩
      · have hqS : Hid (q = r - x) := hq
        clear hq
        have hq' : ¬ q < 0 := by omega
        go_wp2_with fail
        go_roundw
        case rel => exact ⟨k + 1, q, by omega, by go_num, rfl, by rw [E.out, hqS.out, hrS.out]; push_cast; omega, h0, hB1⟩
        case measure => simp [intOf]; omega
    · obtain rfl : k = m := by omega
      clear hP hn
      go_wp2_with fail
      go_ret
      exact ⟨_, rfl, .inr ⟨hr, hr0⟩, hB⟩

set_option maxHeartbeats 2000000 in
theorem szRows (a : Option Addr) (b off m cap : Nat) (R : Nat → Rw) (T : Nat → RSpot) (left : Int) (w : World) (hl : 0 ≤ left ∧ left ≤ 1048576) (hm : m ≤ maxLen) (hP : RowsAt a b off m R T w) (hn : ∀ i, i < m → (R i).n ≤ maxLen ∧ ∀ j, j < (R i).n → ((R i).x j).n ≤ maxLen) :
    Calls Try.prog 40 #[.slice a m cap, .int .i64 left] w fun e w' => ∃ r : Int, e = .returned (.int .i64 r) ∧ (r = -1 ∨ (r = left - m - rowsTo R m ∧ 0 ≤ r)) ∧ Below w.heap.size w w' := by
  have hw : IntKind.i64.wrap (left - (m : Int)) = left - m := by
    have : maxLen ≤ 9223372036854775807 := by decide
    simp [IntKind.wrap, IntKind.signed, IntKind.bits]; omega
  go_enter Try.func40, Try.ntmps40
  go_wp2
  · go_ret
    exact ⟨_, rfl, .inl rfl, Below.refl _ _⟩
  have hge : 0 ≤ left - (m : Int) := by first | assumption | omega
  go_loopw [1, 5] (fun q i wr => ∃ (k : Nat) (r : Int), k ≤ m ∧ i = .int .i64 k ∧ q = .int .i64 r ∧ r = left - m - rowsTo R k ∧ 0 ≤ r ∧ Below w.heap.size w wr) (fun _ i _ => m - (intOf i).toNat)
  case atStart => exact ⟨0, _, Nat.zero_le _, rfl, rfl, by simp [rowsTo], hge, Below.refl _ _⟩
  case round =>
    obtain ⟨k, r, hk, rfl, rfl, hr, hr0, hB⟩ := hrel
    by_cases hlt : k < m
    · have hP' := hP.next hB
      have e1 := hP'.at_ (by omega)
      have c0 := hP'.cell k hlt
      have hR := hP'.row k hlt
      obtain ⟨hn1, hn2⟩ := hn k hlt
      have E : Hid (rowsTo R (k + 1) = rowsTo R k + ((R k).n + stsTo (R k).x (R k).n)) := rfl
      have hrS : Hid (r = left - m - rowsTo R k) := hr
      have t1 : ((k : Int)).toNat = k := by omega
      have t2 : (0 : Int) ≤ (k : Int) := by omega
      have t3 : (k : Int) < (m : Int) := by omega
      have hr1 : r ≤ 1048576 := by omega
      subst e1
      clear hP hP' hn hr
      generalize R k = x at c0 hn1 hn2 hR E
      generalize T k = s at c0 hR
      go_wp2_with fail
      refine (szSts _ _ _ _ _ _ _ _ _ ⟨hr0, hr1⟩ hn1 hR hn2).mono ?_
      rintro e w1 ⟨q, rfl, hq, hb⟩
      have hB1 := below_tr hB hb
      clear hR hn1 hn2 c0
      rcases hq with rfl | ⟨hq, h0⟩
      · go_wp2_with fail
        go_ret
        exact ⟨_, rfl, .inl rfl, hB1⟩
      · have hqS : Hid (q = r - x.n - stsTo x.x x.n) := hq
        clear hq
        have hq' : ¬ q < 0 := by omega
        go_wp2_with fail
        go_roundw
        case rel => exact ⟨k + 1, q, by omega, by go_num, rfl, by rw [E.out, hqS.out, hrS.out]; push_cast; omega, h0, hB1⟩
        case measure => simp [intOf]; omega
    · obtain rfl : k = m := by omega
      clear hP hn
      go_wp2_with fail
      go_ret
      exact ⟨_, rfl, .inr ⟨hr, hr0⟩, hB⟩

theorem szCert (a : Option Addr) (b off m cap : Nat) (R : Nat → Rw) (T : Nat → RSpot) (a' : Option Addr) (n' cap' : Nat) (left : Int) (w : World) (hl : 0 ≤ left ∧ left ≤ 1048576) (hm : m ≤ maxLen) (hP : RowsAt a b off m R T w) (hn : ∀ i, i < m → (R i).n ≤ maxLen ∧ ∀ j, j < (R i).n → ((R i).x j).n ≤ maxLen) (hn' : n' ≤ maxLen) :
    Calls Try.prog 9 #[.agg #[.slice a m cap, .slice a' n' cap'], .int .i64 left] w fun e w' => ∃ r : Int, e = .returned (.int .i64 r) ∧ (r = -1 ∨ (r = left - m - rowsTo R m - n' ∧ 0 ≤ r)) ∧ Below w.heap.size w w' := by
  have H0 : HeldL w [(w.heap.size, [Value.slice a m cap, .slice a' n' cap'])] (w.alloc (.cells #[.slice a m cap, .slice a' n' cap'] 29)) := HeldL.newL (vs := [Value.slice a m cap, .slice a' n' cap']) (HeldL.nil w)
  have hP0 := hP.next H0.below
  clear hP
  go_enter Try.func9, Try.ntmps9
  go_wp2_with fail
  refine (szRows _ _ _ _ _ _ _ _ _ hl hm hP0 hn).mono ?_
  rintro e w1 ⟨r, rfl, hr, hb⟩
  have H1 := H0.next hb
  clear hP0 hn H0 hb
  have c1 := H1.cell List.mem_cons_self (i := 1) rfl
  dsimp only at c1
  rcases hr with rfl | ⟨hr, h0⟩
  · go_wp2_with fail
    go_ret
    exact ⟨_, rfl, .inl rfl, H1.below⟩
  · have hrS : Hid (r = left - m - rowsTo R m) := hr
    have hr1 : r ≤ 1048576 := by omega
    clear hr
    have hr' : ¬ r < 0 := by omega
    go_wp2_with fail
    refine (szSums _ _ _ _ _ ⟨h0, hr1⟩ hn').mono ?_
    rintro e w2 ⟨q, rfl, hq, hb⟩
    have H2 := H1.next hb
    clear H1 hb c1
    rcases hq with rfl | ⟨hq, h0'⟩
    · go_wp2_with fail
      go_ret
      exact ⟨_, rfl, .inl rfl, H2.below⟩
    · have hqS : Hid (q = r - n') := hq
      clear hq
      have hq' : ¬ q < 0 := by omega
      go_wp2_with fail
      go_ret
      exact ⟨_, rfl, .inr ⟨by rw [hqS.out, hrS.out], h0'⟩, H2.below⟩

/-- What lies there, as states. -/
def stAt (w : World) (b off : Nat) : Nat → St := fun i =>
  ⟨bolC (w.cell? ⟨b, off + i * 4, none⟩), slN (w.cell? ⟨b, off + i * 4 + 1, none⟩), endsAt w (blk (slA (w.cell? ⟨b, off + i * 4 + 1, none⟩))) (ofs (slA (w.cell? ⟨b, off + i * 4 + 1, none⟩))) 0, endsAt w (blk (slA (w.cell? ⟨b, off + i * 4 + 1, none⟩))) (ofs (slA (w.cell? ⟨b, off + i * 4 + 1, none⟩))) 1, intC (w.cell? ⟨b, off + i * 4 + 2, none⟩), intC (w.cell? ⟨b, off + i * 4 + 3, none⟩)⟩
def sspotAt (w : World) (b off : Nat) : Nat → Spot := fun i =>
  ⟨slA (w.cell? ⟨b, off + i * 4 + 1, none⟩), blk (slA (w.cell? ⟨b, off + i * 4 + 1, none⟩)), ofs (slA (w.cell? ⟨b, off + i * 4 + 1, none⟩)), slC (w.cell? ⟨b, off + i * 4 + 1, none⟩)⟩
def rwAt (w : World) (b off : Nat) : Nat → Rw := fun i =>
  ⟨slN (w.cell? ⟨b, off + i, none⟩), stAt w (blk (slA (w.cell? ⟨b, off + i, none⟩))) (ofs (slA (w.cell? ⟨b, off + i, none⟩)))⟩
def rspotAt (w : World) (b off : Nat) : Nat → RSpot := fun i =>
  ⟨slA (w.cell? ⟨b, off + i, none⟩), blk (slA (w.cell? ⟨b, off + i, none⟩)), ofs (slA (w.cell? ⟨b, off + i, none⟩)), slC (w.cell? ⟨b, off + i, none⟩), sspotAt w (blk (slA (w.cell? ⟨b, off + i, none⟩))) (ofs (slA (w.cell? ⟨b, off + i, none⟩)))⟩
theorem open_abs1 {H : Type} {enc : TypeId × Value → H} {w : World} {base : Nat} {sp : Nat → Bool} {held : Bool} {fuel : Nat} {c0 c1 c2 c3 : Value} {x : DataW H × List MemPlace}
    (h : DataW.trod enc Try.prog w base sp held fuel 69 [c0, c1, c2, c3] = some x) :
    ∃ (on : Bool) (a : Option Addr) (n cap : Nat) (z2 z3 : Int), c0 = .bool on ∧ c1 = .slice a n cap ∧ c2 = .int .i64 z2 ∧ c3 = .int .i64 z3 ∧ n ≤ maxLen ∧ BndsAt a (blk a) (ofs a) n (endsAt w (blk a) (ofs a) 0) (endsAt w (blk a) (ofs a) 1) w := by
  have hc1' : Try.prog.cellsOf 4 = 1 := by kernel_rfl
  have hc2' : Try.prog.cellsOf 65 = 1 := by kernel_rfl
  have hc3' : Try.prog.cellsOf 67 = 2 := by kernel_rfl
  obtain ⟨ys, q, _, _, _, hl', hf'⟩ := Go.DataW.trod_struct Try.underlying69 h
  match ys, hl' with
  | [y0, y1, y2], _ =>
    have hy0 := hf' 0 _ rfl
    have hy1 := hf' 1 _ rfl
    have hy2 := hf' 2 _ rfl
    simp [hc1', hc2', hc3'] at hy0 hy1 hy2
    obtain ⟨on, e0, _⟩ := DataW.trod_bool Try.underlying4 hy0
    obtain ⟨a, n, cap, e1, h1, h2⟩ := open_bnds hy1
    obtain ⟨z2, z3, e2, e3⟩ := open_ends hy2
    simp at e0
    exact ⟨on, a, n, cap, z2, z3, e0, e1, e2, e3, h1, h2⟩
theorem open_sts {H : Type} {enc : TypeId × Value → H} {w : World} {base : Nat} {sp : Nat → Bool} {held : Bool} {fuel : Nat} {v : Value} {x : DataW H × List MemPlace}
    (h : DataW.trod enc Try.prog w base sp held fuel 141 [v] = some x) :
    ∃ (a : Option Addr) (m cap : Nat), v = .slice a m cap ∧ m ≤ maxLen ∧ (∀ i, i < m → (stAt w (blk a) (ofs a) i).n ≤ maxLen) ∧ StsAt a (blk a) (ofs a) m (stAt w (blk a) (ofs a)) (sspotAt w (blk a) (ofs a)) w := by
  have hC : Try.prog.cellsOf 69 = 4 := by kernel_rfl
  rcases DataW.trod_slice Try.underlying141 h with ⟨hcs, _⟩ | ⟨a, n, cap, elems, rest, m, _, hcs, _, hb, hl, hm, hlen, hel, _, _⟩
  · simp at hcs
    exact ⟨none, 0, 0, hcs, Nat.zero_le _, fun i hi => absurd hi (by omega), ⟨fun h => absurd h (by omega), fun h => absurd h (by omega), fun i hi => absurd hi (by omega), fun i hi => absurd hi (by omega), fun i hi => absurd hi (by omega), fun i hi => absurd hi (by omega), fun i hi => absurd hi (by omega)⟩⟩
  · simp at hcs
    have each : ∀ k, k < n → ∃ (z0 : Bool) (s : Option Addr) (l c : Nat) (z2 z3 : Int), w.cell? ((a.add (k * 4)).add 0) = some (.bool z0) ∧ w.cell? ((a.add (k * 4)).add 1) = some (.slice s l c) ∧ w.cell? ((a.add (k * 4)).add 2) = some (.int .i64 z2) ∧ w.cell? ((a.add (k * 4)).add 3) = some (.int .i64 z3) ∧ l ≤ maxLen ∧ BndsAt s (blk s) (ofs s) l (endsAt w (blk s) (ofs s) 0) (endsAt w (blk s) (ofs s) 1) w := by
      intro k hk
      have h1 := hel k hk
      rw [hC, List.getElem?_eq_getElem (by omega), Option.bind_eq_some_iff] at h1
      obtain ⟨cs, hc1, hc2⟩ := h1
      obtain ⟨hb', hln, hcell⟩ := World.cells?_some hc1
      match cs, hln with
      | [c0, c1, c2, c3], _ =>
        have d0 := hcell 0 (by omega)
        have d1 := hcell 1 (by omega)
        have d2 := hcell 2 (by omega)
        have d3 := hcell 3 (by omega)
        obtain ⟨z0, s, l, c, z2, z3, rfl, rfl, rfl, rfl, hml, hcd⟩ := open_abs1 hc2
        exact ⟨z0, s, l, c, z2, z3, d0, d1, d2, d3, hml, hcd⟩
    have hsp : 0 < n → a.spot = none := fun h0 => by
      obtain ⟨z, _, _, _, _, _, hz, _⟩ := each 0 h0
      exact (spot_none hz : _)
    refine ⟨some a, n, cap, hcs, Nat.le_trans hl hm, fun i hi => ?_, ⟨fun h0 => ?_, fun h0 => ?_, fun i hi => ?_, fun i hi => ?_, fun i hi => ?_, fun i hi => ?_, fun i hi => ?_⟩⟩
    · have := hsp (by omega)
      obtain ⟨z0, s, l, c, z2, z3, d0, d1, d2, d3, hml, hcd⟩ := each i hi
      obtain ⟨b, o, sq⟩ := a
      simp only at this
      subst this
      have d1' : w.cell? ⟨b, o + i * 4 + 1, none⟩ = some (.slice s l c) := by simpa only [add_mk, Nat.add_zero] using d1
      simp only [stAt, blk, ofs, d1', slN]
      exact hml
    · have := hsp h0
      obtain ⟨b, o, s⟩ := a
      simp only at this
      subst this
      rfl
    · obtain ⟨z, _, _, _, _, _, hz, _⟩ := each 0 h0
      exact block_lt hz
    all_goals
      have := hsp (by omega)
      obtain ⟨z0, s, l, c, z2, z3, d0, d1, d2, d3, hml, hcd⟩ := each i hi
      obtain ⟨b, o, sq⟩ := a
      simp only at this
      subst this
      have d0' : w.cell? ⟨b, o + i * 4, none⟩ = some (.bool z0) := by simpa only [add_mk, Nat.add_zero] using d0
      have d1' : w.cell? ⟨b, o + i * 4 + 1, none⟩ = some (.slice s l c) := by simpa only [add_mk, Nat.add_zero] using d1
      have d2' : w.cell? ⟨b, o + i * 4 + 2, none⟩ = some (.int .i64 z2) := by simpa only [add_mk, Nat.add_zero] using d2
      have d3' : w.cell? ⟨b, o + i * 4 + 3, none⟩ = some (.int .i64 z3) := by simpa only [add_mk, Nat.add_zero] using d3
      first
        | (simp only [stAt, blk, ofs, d0', bolC]; done)
        | (simp only [stAt, blk, ofs, d2', intC]; done)
        | (simp only [stAt, blk, ofs, d3', intC]; done)
        | (simp only [stAt, sspotAt, blk, ofs, d1', slN, slA, slC]; done)
        | (simp only [stAt, sspotAt, blk, ofs, d1', slN, slA, slC]; exact hcd)
theorem open_rows {H : Type} {enc : TypeId × Value → H} {w : World} {base : Nat} {sp : Nat → Bool} {held : Bool} {fuel : Nat} {v : Value} {x : DataW H × List MemPlace}
    (h : DataW.trod enc Try.prog w base sp held fuel 26 [v] = some x) :
    ∃ (a : Option Addr) (m cap : Nat), v = .slice a m cap ∧ m ≤ maxLen ∧ (∀ i, i < m → (rwAt w (blk a) (ofs a) i).n ≤ maxLen ∧ ∀ j, j < (rwAt w (blk a) (ofs a) i).n → ((rwAt w (blk a) (ofs a) i).x j).n ≤ maxLen) ∧ RowsAt a (blk a) (ofs a) m (rwAt w (blk a) (ofs a)) (rspotAt w (blk a) (ofs a)) w := by
  have hC : Try.prog.cellsOf 141 = 1 := by kernel_rfl
  rcases DataW.trod_slice Try.underlying26 h with ⟨hcs, _⟩ | ⟨a, n, cap, elems, rest, m, _, hcs, _, hb, hl, hm, hlen, hel, _, _⟩
  · simp at hcs
    exact ⟨none, 0, 0, hcs, Nat.zero_le _, fun i hi => absurd hi (by omega), ⟨fun h => absurd h (by omega), fun h => absurd h (by omega), fun i hi => absurd hi (by omega), fun i hi => absurd hi (by omega)⟩⟩
  · simp at hcs
    have each : ∀ k, k < n → ∃ (s : Option Addr) (l c : Nat), w.cell? ((a.add (k * 1)).add 0) = some (.slice s l c) ∧ l ≤ maxLen ∧ (∀ i, i < l → (stAt w (blk s) (ofs s) i).n ≤ maxLen) ∧ StsAt s (blk s) (ofs s) l (stAt w (blk s) (ofs s)) (sspotAt w (blk s) (ofs s)) w := by
      intro k hk
      have h1 := hel k hk
      rw [hC, List.getElem?_eq_getElem (by omega), Option.bind_eq_some_iff] at h1
      obtain ⟨cs, hc1, hc2⟩ := h1
      obtain ⟨hb', hln, hcell⟩ := World.cells?_some hc1
      match cs, hln with
      | [c0], _ =>
        have d0 := hcell 0 (by omega)
        obtain ⟨s, l, c, rfl, hml, hcd⟩ := open_sts hc2
        exact ⟨s, l, c, d0, hml, hcd⟩
    have hsp : 0 < n → a.spot = none := fun h0 => by
      obtain ⟨_, _, _, hz, _⟩ := each 0 h0
      exact (spot_none hz : _)
    refine ⟨some a, n, cap, hcs, Nat.le_trans hl hm, fun i hi => ?_, ⟨fun h0 => ?_, fun h0 => ?_, fun i hi => ?_, fun i hi => ?_⟩⟩
    · have := hsp (by omega)
      obtain ⟨s, l, c, d0, hml, hcd, _⟩ := each i hi
      obtain ⟨b, o, sq⟩ := a
      simp only at this
      subst this
      have d0' : w.cell? ⟨b, o + i, none⟩ = some (.slice s l c) := by simpa only [add_mk, Nat.add_zero, Nat.mul_one] using d0
      simp only [rwAt, blk, ofs, d0', slN, slA]
      exact ⟨hml, hcd⟩
    · have := hsp h0
      obtain ⟨b, o, s⟩ := a
      simp only at this
      subst this
      rfl
    · obtain ⟨_, _, _, hz, _⟩ := each 0 h0
      exact block_lt hz
    all_goals
      have := hsp (by omega)
      obtain ⟨s, l, c, d0, hml, _, hcd⟩ := each i hi
      obtain ⟨b, o, sq⟩ := a
      simp only at this
      subst this
      have d0' : w.cell? ⟨b, o + i, none⟩ = some (.slice s l c) := by simpa only [add_mk, Nat.add_zero, Nat.mul_one] using d0
      first
        | (simp only [rwAt, rspotAt, blk, ofs, d0', slN, slA, slC]; done)
        | (simp only [rwAt, rspotAt, blk, ofs, d0', slN, slA, slC]; exact hcd)
set_option maxRecDepth 10000 in
theorem open_cert {H : Type} {enc : TypeId × Value → H} {w : World} {base : Nat} {sp : Nat → Bool} {held : Bool} {r : Reach} {b0 : Nat} {v : Value} {d : DataW H} {ps : List MemPlace}
    (hv : Value.okWide Try.prog w r b0 29 v) (h : DataW.Trod enc Try.prog w base sp held 29 v d ps) :
    ∃ (a : Option Addr) (m cap : Nat) (a' : Option Addr) (n' cap' : Nat), v = .agg #[.slice a m cap, .slice a' n' cap'] ∧ m ≤ maxLen ∧ (∀ i, i < m → (rwAt w (blk a) (ofs a) i).n ≤ maxLen ∧ ∀ j, j < (rwAt w (blk a) (ofs a) i).n → ((rwAt w (blk a) (ofs a) i).x j).n ≤ maxLen) ∧ n' ≤ maxLen ∧ RowsAt a (blk a) (ofs a) m (rwAt w (blk a) (ofs a)) (rspotAt w (blk a) (ofs a)) w ∧ SumsAt a' (blk a') (ofs a') n' (sumsAt w (blk a') (ofs a')) w := by
  have hC : Try.prog.cellsOf 29 = 2 := by kernel_rfl
  have hc1' : Try.prog.cellsOf 26 = 1 := by kernel_rfl
  have hc2' : Try.prog.cellsOf 27 = 1 := by kernel_rfl
  obtain ⟨cs, rfl, hsz⟩ := okWide_struct Try.underlying29 hv
  obtain ⟨c0, c1, rfl⟩ : ∃ c0 c1, cs = #[c0, c1] := by
    obtain ⟨l⟩ := cs
    have := hsz.trans hC
    match l, this with
    | [c0, c1], _ => exact ⟨c0, c1, rfl⟩
  obtain ⟨fuel, hf⟩ := h
  obtain ⟨ys, q, _, _, _, hl', hf'⟩ := Go.DataW.trod_struct Try.underlying29 hf
  match ys, hl' with
  | [y0, y1], _ =>
    have hy0 := hf' 0 _ rfl
    have hy1 := hf' 1 _ rfl
    simp [hc1', hc2', Value.cells] at hy0 hy1
    obtain ⟨a, m, cap, rfl, h1, h2, h3⟩ := open_rows hy0
    obtain ⟨a', n', cap', rfl, h4, h5⟩ := open_sums hy1
    exact ⟨a, m, cap, a', n', cap', rfl, h1, h2, h4, h3, h5⟩
end Go.Proofs.Ytdpkbbbfnmneiaa
