/- What a law holds that answers a state: what stays when one block is marked; marks of a state and of a procedure; a procedure that is handed in. -/
import Derived.Test.YtddcojeghdnhnaaDoorArrSt
import Derived.Test.YtddcojeghdnhnaaDoorExLaw
import Derived.Test.YtddcojeghdnhnaaDoorOpenAbs
import Derived.Test.YtddcojeghdnhnaaDoorPrgEq
import Derived.Test.YtddcojeghdnhnaaDoorAbsX
namespace Go.Proofs.YtddcojeghdnhnaaDoor
open Go.ChangeShapes Go.WideShapes Go.ChangeAt Go.RowKit
set_option linter.unusedVariables false

theorem HeldL.kept {w : World} {L : List (Nat × List Value)} {W W' : World} {G i : Nat} (h : HeldL w L W) (hb : Below w.heap.size W W') (t : Trn G i W W') (hG : ∀ e ∈ L, e.1 ≠ G) : HeldL w L W' :=
  ⟨h.below.trans hb, fun e he => by
    obtain ⟨h1, h2, h3⟩ := h.cells e he
    exact ⟨h1, Nat.lt_of_lt_of_le h2 t.1, fun i v hv => (t.2 ⟨e.1, i, none⟩ h2 (hG e he)).1.trans (h3 i v hv)⟩,
    fun e he i => (t.2 ⟨e.1, i, none⟩ (h.cells e he).2.1 (hG e he)).2.trans (h.free e he i)⟩
theorem BndsAt.kept {a : Option Addr} {b off n : Nat} {lo hi : Nat → Int} {W W' : World} {G i : Nat} (h : BndsAt a b off n lo hi W) (t : Trn G i W W') (hG : 0 < n → b ≠ G) : BndsAt a b off n lo hi W' :=
  ⟨h.at_, fun hn => Nat.lt_of_lt_of_le (h.lt hn) t.1, fun k hk => (t.2 ⟨b, off + k * 2, none⟩ (h.lt (by omega)) (hG (by omega))).1.trans (h.lo k hk), fun k hk => (t.2 ⟨b, off + k * 2 + 1, none⟩ (h.lt (by omega)) (hG (by omega))).1.trans (h.hi k hk)⟩
theorem BndsIs.kept {N n : Nat} {lo hi : Nat → Int} {a : Option Addr} {g : Nat} {W W' : World} {G i : Nat} (h : BndsIs N n lo hi a g W) (t : Trn G i W W') (hG : 0 < n → g ≠ G) : BndsIs N n lo hi a g W' :=
  ⟨h.own, fun hn i => (t.2 ⟨g, i, none⟩ (h.at_.lt hn) (hG hn)).2.trans (h.free hn i), h.at_.kept t hG⟩
theorem Turns.trn {G i : Nat} {W W' : World} (h : Turns (fun x => x = G) W W') : Trn G i W W' :=
  ⟨h.size, fun p hp hne => ⟨h.cell hp hne, h.free p hp⟩⟩
theorem Wrote.trn {G N B i : Nat} {W W' : World} (h : Wrote (fun j => ⟨G, j, none⟩) N B W W') : Trn G i W W' :=
  ⟨h.size, fun p hp hne => ⟨h.other p hp (fun j _ e => hne (by rw [e])), h.free p hp⟩⟩
set_option maxHeartbeats 2000000 in
theorem markAbsP (on : Bool) (a : Option Addr) (g n cap : Nat) (lo hi : Nat → Int) (c d : Int) (B : Nat) (w : World) (hn : n ≤ 1048576) (hB : B ≤ w.heap.size) (hP : Pen (fun j => ⟨g, j, none⟩) (n * 2) B w) (hat : 0 < n → a = some ⟨g, 0, none⟩) :
    Calls Tryd.prog 9 #[.agg #[.bool on, .slice a n cap, .int .i64 c, .int .i64 d], .int .i64 1] w fun e w' => e = .returned (.int .i64 ((n : Int) * 2 + 1)) ∧ Mk (fun j => ⟨g, j, none⟩) (n * 2) w' ∧ Pen (fun j => ⟨g, j, none⟩) (n * 2) B w' ∧ Wrote (fun j => ⟨g, j, none⟩) (n * 2) B w w' := by
  have b0 : Below w.heap.size w (w.alloc (.cells #[.bool on, .slice a n cap, .int .i64 c, .int .i64 d] 31)) := (Below.refl _ _).alloc (Nat.le_refl _) _
  have hP0 := hP.below b0
  have hW0 : Wrote (fun j => ⟨g, j, none⟩) (n * 2) B w (w.alloc (.cells #[.bool on, .slice a n cap, .int .i64 c, .int .i64 d] 31)) := Wrote.ofBelow b0 hB
  go_enter Tryd.func9, Tryd.ntmps9
  go_wp2_with fail
  refine (markBndsP (fun j => ⟨g, j, none⟩) (n * 2) B 0 n g cap a 1 _ (by simp) (by omega) (by omega) hat (fun j _ => by rw [Nat.zero_add]) hP0 (fun j hj => by omega)).mono ?_
  rintro e w1 ⟨rfl, hM, hP1, hW⟩
  rw [Nat.zero_add] at hM
  go_wp2_with fail
  go_ret
  exact ⟨ret_int (by push_cast; omega), hM, hP1, hW0.trans hW⟩
set_option maxHeartbeats 2000000 in
theorem heldAbsP (on : Bool) (a : Option Addr) (g n cap : Nat) (c d : Int) (w : World) (hn : n ≤ 1048576) (hat : 0 < n → a = some ⟨g, 0, none⟩ ∧ g < w.heap.size) (hM : Mk (fun j => ⟨g, j, none⟩) (n * 2) w) :
    Calls Tryd.prog 10 #[.agg #[.bool on, .slice a n cap, .int .i64 c, .int .i64 d], .int .i64 1] w fun e w' => e = .returned (.int .i64 ((n : Int) * 2 + 1)) ∧ Below w.heap.size w w' := by
  have b0 : Below w.heap.size w (w.alloc (.cells #[.bool on, .slice a n cap, .int .i64 c, .int .i64 d] 31)) := (Below.refl _ _).alloc (Nat.le_refl _) _
  have hM0 : Mk (fun j => ⟨g, j, none⟩) (n * 2) (w.alloc (.cells #[.bool on, .slice a n cap, .int .i64 c, .int .i64 d] 31)) := fun j hj => (b0.cell (p := ⟨g, j, none⟩) (hat (by omega)).2).trans (hM j hj)
  go_enter Tryd.func10, Tryd.ntmps10
  go_wp2_with fail
  refine (heldBndsP (fun j => ⟨g, j, none⟩) (n * 2) 0 n g cap a 1 _ (by simp) (by omega) (by omega) (fun h => (hat h).1) (fun j _ => by rw [Nat.zero_add]) hM0).mono ?_
  rintro e w1 ⟨rfl, hb⟩
  have hq : ¬ ((0 : Nat) : Int) + (n : Int) * 2 + 1 < 0 := by omega
  have b1 := below_tr b0 hb
  clear hM hM0 hat
  go_wp2_with fail
  go_ret
  exact ⟨ret_int (by push_cast; omega), b1⟩
def ProcV (lo hi : Int) (n : Nat) (c : Nat → Nat → Int) (v : Value) (W : World) : Prop := ∃ g : Nat, v = .agg #[.int .i64 lo, .int .i64 hi, .slice (some ⟨g, 0, none⟩) n n] ∧ g < W.heap.size ∧ CodeAt (some ⟨g, 0, none⟩) g 0 n c W
theorem ProcV.next {lo hi : Int} {n : Nat} {c : Nat → Nat → Int} {v : Value} {W W' : World} (h : ProcV lo hi n c v W) (hb : Below W.heap.size W W') : ProcV lo hi n c v W' := by
  obtain ⟨g, e, h1, h2⟩ := h
  exact ⟨g, e, Nat.lt_of_lt_of_le h1 hb.size, h2.next hb⟩
theorem CodeAt.room {g n : Nat} {c : Nat → Nat → Int} {W : World} (h : CodeAt (some ⟨g, 0, none⟩) g 0 n c W) (hg : g < W.heap.size) (hf : ∀ i, W.frozen? ⟨g, i, none⟩ = false) : Room g (n * 8) W :=
  ⟨hg, fun i hi => by
    have := h.cell (i / 8) (i % 8) (by omega) (by omega)
    rw [Nat.zero_add, show i / 8 * 8 + i % 8 = i by omega] at this
    rw [this]; rfl, hf⟩
end Go.Proofs.YtddcojeghdnhnaaDoor
