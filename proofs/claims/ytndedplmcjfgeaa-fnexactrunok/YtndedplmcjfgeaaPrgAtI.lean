/- The program's PrgAt; and what a law holds on to while it copies a program once more and holds both copies against each other. -/
import Derived.Test.YtndedplmcjfgeaaPrgC
import Derived.Test.YtndedplmcjfgeaaStepI
namespace Go.Proofs.Ytndedplmcjfgeaa
open Go.ChangeShapes Go.WideShapes Go.ChangeAt Go.RowKit

set_option maxHeartbeats 4000000 in
theorem prgAtI (a : Option Addr) (b off m cap : Nat) (P : Nat → Proc) (S : Nat → Spot) (proc pc : Int) (w : World) (hm : m ≤ 1048576) (hP : ProcsAt a b off m P S w) :
    Calls Try.prog 16 #[.agg #[.slice a m cap], .int .i64 proc, .int .i64 pc] w fun e w' => e = .returned (.tuple #[AtV P m proc pc, .bool (atB P m proc pc)]) ∧ Below w.heap.size w w' := by
  have b0 : Below w.heap.size w ((w.alloc (.cells #[.slice a m cap] 29)).alloc (.cells #[.int .i64 0, .int .i64 0, .int .i64 0, .int .i64 0, .int .i64 0, .int .i64 0, .int .i64 0, .int .i64 0] 34)) := by
    repeat (first | exact Below.refl _ _ | refine Below.alloc ?_ (by simp; try omega) _)
  have hP0 := hP.next b0
  clear hP
  cases hp : placeB proc m
  · have hB : atB P m proc pc = false := by
      simp only [placeB] at hp
      simp only [atB, hp, Bool.false_and]
    have hV : AtV P m proc pc = .agg #[.int .i64 0, .int .i64 0, .int .i64 0, .int .i64 0, .int .i64 0, .int .i64 0, .int .i64 0, .int .i64 0] := by simp [AtV, atC_no hB]
    rw [hB, hV]
    clear hB hV hP0
    go_enter Try.func16, Try.ntmps16
    go_wp2_with (go_at_call 40; refine (placeI _ _ _).mono ?_; rintro e w' ⟨rfl, rfl⟩; rw [hp])
    refine bodyPost_ret (v := .tuple #[.agg #[.int .i64 0, .int .i64 0, .int .i64 0, .int .i64 0, .int .i64 0, .int .i64 0, .int .i64 0, .int .i64 0], .bool false]) (by simp [results, Try.results16, go_sem]) rfl ⟨rfl, ?_⟩
    repeat (first | exact b0 | exact Below.refl _ _ | refine Below.alloc ?_ (by simp; try omega) _ | refine Below.setCell ?_ (by simp; try omega) _)
  have hp' : 0 ≤ proc ∧ proc < m := by simpa [placeB] using hp
  obtain ⟨k, rfl⟩ : ∃ k : Nat, proc = k := ⟨proc.toNat, by omega⟩
  have t1 : ((k : Int)).toNat = k := by omega
  have t2 : (0 : Int) ≤ (k : Int) := by omega
  have t5 : (k : Int) < (m : Int) := by omega
  have hk : k < m := by omega
  have e1 := hP0.at_ (by omega)
  have c2 := hP0.code k hk
  have hC := hP0.steps k hk
  subst e1
  clear hP0 hp'
  cases hq : placeB pc (P k).n
  · have hB : atB P m k pc = false := by
      simp only [placeB] at hq
      simp only [atB, t1, Bool.and_assoc, hq, Bool.and_false]
    have hV : AtV P m k pc = .agg #[.int .i64 0, .int .i64 0, .int .i64 0, .int .i64 0, .int .i64 0, .int .i64 0, .int .i64 0, .int .i64 0] := by simp [AtV, atC_no hB]
    rw [hB, hV]
    clear hB hV hC
    go_enter Try.func16, Try.ntmps16
    go_wp2_with (go_at_call 40; refine (placeI _ _ _).mono ?_; rintro e w' ⟨rfl, rfl⟩; first | rw [hp] | rw [hq])
    refine bodyPost_ret (v := .tuple #[.agg #[.int .i64 0, .int .i64 0, .int .i64 0, .int .i64 0, .int .i64 0, .int .i64 0, .int .i64 0, .int .i64 0], .bool false]) (by simp [results, Try.results16, go_sem]) rfl ⟨rfl, ?_⟩
    repeat (first | exact b0 | exact Below.refl _ _ | refine Below.alloc ?_ (by simp; try omega) _ | refine Below.setCell ?_ (by simp; try omega) _)
  have hq' : 0 ≤ pc ∧ pc < (P k).n := by simpa [placeB] using hq
  obtain ⟨l, rfl⟩ : ∃ l : Nat, pc = l := ⟨pc.toNat, by omega⟩
  have t3 : ((l : Int)).toNat = l := by omega
  have t4 : (0 : Int) ≤ (l : Int) := by omega
  have hl : l < (P k).n := by omega
  have t6 : (l : Int) < ((P k).n : Int) := by omega
  have hB : atB P m k l = true := by simp [atB, t1]; omega
  have hV : AtV P m k l = .agg #[.int .i64 ((P k).c l 0), .int .i64 ((P k).c l 1), .int .i64 ((P k).c l 2), .int .i64 ((P k).c l 3), .int .i64 ((P k).c l 4), .int .i64 ((P k).c l 5), .int .i64 ((P k).c l 6), .int .i64 ((P k).c l 7)] := by simp [AtV, atC_yes hB]
  rw [hB, hV]
  have e2 := hC.at_ (by omega)
  have d0 := hC.cell l 0 hl (by omega)
  have d1 := hC.cell l 1 hl (by omega)
  have d2 := hC.cell l 2 hl (by omega)
  have d3 := hC.cell l 3 hl (by omega)
  have d4 := hC.cell l 4 hl (by omega)
  have d5 := hC.cell l 5 hl (by omega)
  have d6 := hC.cell l 6 hl (by omega)
  have d7 := hC.cell l 7 hl (by omega)
  rw [Nat.add_zero] at d0
  rw [e2] at c2
  clear hB hV hC e2 hq'
  generalize (P k).c l 0 = x0 at *
  generalize (P k).c l 1 = x1 at *
  generalize (P k).c l 2 = x2 at *
  generalize (P k).c l 3 = x3 at *
  generalize (P k).c l 4 = x4 at *
  generalize (P k).c l 5 = x5 at *
  generalize (P k).c l 6 = x6 at *
  generalize (P k).c l 7 = x7 at *
  go_enter Try.func16, Try.ntmps16
  go_wp2_with (go_at_call 40; refine (placeI _ _ _).mono ?_; rintro e w' ⟨rfl, rfl⟩; first | rw [hp] | rw [hq])
  refine bodyPost_ret (v := .tuple #[.agg #[.int .i64 x0, .int .i64 x1, .int .i64 x2, .int .i64 x3, .int .i64 x4, .int .i64 x5, .int .i64 x6, .int .i64 x7], .bool true]) (by simp [results, Try.results16, go_sem]) rfl ⟨rfl, ?_⟩
  repeat (first | exact b0 | exact Below.refl _ _ | refine Below.alloc ?_ (by simp; try omega) _ | refine Below.setCell ?_ (by simp; try omega) _)

/-- What a law holds on to: the program that was handed in (its value in block y), and a copy of it (its value in block x). -/
structure HeldP (w : World) (x y : Nat) (a : Option Addr) (b off m cap : Nat) (P : Nat → Proc) (S : Nat → Spot) (g : Nat) (R : Nat → Spot) (W : World) : Prop where
  below : Below w.heap.size w W
  lx : x < W.heap.size
  ly : y < W.heap.size
  lg : g < W.heap.size
  cx : W.cell? ⟨x, 0, none⟩ = some (.slice (some ⟨g, 0, none⟩) m m)
  cy : W.cell? ⟨y, 0, none⟩ = some (.slice a m cap)
  pa : ProcsAt a b off m P S W
  px : ProcsAt (some ⟨g, 0, none⟩) g 0 m P R W
theorem HeldP.next {w : World} {x y : Nat} {a : Option Addr} {b off m cap : Nat} {P : Nat → Proc} {S : Nat → Spot} {g : Nat} {R : Nat → Spot} {W W' : World} (h : HeldP w x y a b off m cap P S g R W) (hb : Below W.heap.size W W') : HeldP w x y a b off m cap P S g R W' :=
  ⟨below_tr h.below hb, Nat.lt_of_lt_of_le h.lx hb.size, Nat.lt_of_lt_of_le h.ly hb.size, Nat.lt_of_lt_of_le h.lg hb.size, (hb.cell (p := ⟨x, 0, none⟩) h.lx).trans h.cx, (hb.cell (p := ⟨y, 0, none⟩) h.ly).trans h.cy, h.pa.next hb, h.px.next hb⟩
theorem HeldP.drew {w : World} {x y : Nat} {a : Option Addr} {b off m cap : Nat} {P : Nat → Proc} {S : Nat → Spot} {g : Nat} {R : Nat → Spot} {W : World} (h : HeldP w x y a b off m cap P S g R W) : HeldP w x y a b off m cap P S g R W.drew := h.next (Below.refl _ W).drew
def KP (w : World) (x y : Nat) (a : Option Addr) (b off m cap : Nat) (P : Nat → Proc) (S : Nat → Spot) (g : Nat) (R : Nat → Spot) (W : World) : Prop :=
  W.cell? ⟨x, 0, none⟩ = some (.slice (some ⟨g, 0, none⟩) m m) ∧ W.cell? ⟨y, 0, none⟩ = some (.slice a m cap) ∧ HeldP w x y a b off m cap P S g R W
theorem KP.of {w : World} {x y : Nat} {a : Option Addr} {b off m cap : Nat} {P : Nat → Proc} {S : Nat → Spot} {g : Nat} {R : Nat → Spot} {W : World} (h : HeldP w x y a b off m cap P S g R W) : KP w x y a b off m cap P S g R W := ⟨h.cx, h.cy, h⟩
theorem KP.held {w : World} {x y : Nat} {a : Option Addr} {b off m cap : Nat} {P : Nat → Proc} {S : Nat → Spot} {g : Nat} {R : Nat → Spot} {W : World} (h : KP w x y a b off m cap P S g R W) : HeldP w x y a b off m cap P S g R W := h.2.2
end Go.Proofs.Ytndedplmcjfgeaa
