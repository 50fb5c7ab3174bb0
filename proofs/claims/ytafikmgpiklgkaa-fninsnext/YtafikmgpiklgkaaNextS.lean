/- Where a step leads to: plainly, and the model's InsNext. -/
import Derived.Test.YtafikmgpiklgkaaInsS5
import Derived.Test.YtafikmgpiklgkaaLst
import Derived.WalkKit
import Derived.ProofKit
import Derived.OpenShut
import Derived.Below
namespace Go.Proofs.Ytafikmgpiklgkaa
open Go.ChangeShapes Go.WideShapes Go.ChangeAt Go.RowKit
theorem i64_at {n : Int} (h1 : -9223372036854775808 ≤ n) (h2 : n ≤ 9223372036854775807) : IntKind.i64.wrap n = n := by
  simp [IntKind.wrap, IntKind.signed, IntKind.bits]
  omega
/-- Where a step at a place leads to. -/
def nextL (o t n : Int) : List Int :=
  if o = 12 then [] else if o = 9 then [t] else if o = 8 then (if t < n then [t, n] else if n < t then [n, t] else [n]) else [n]
def insNext (o d a b r l h t n : Int) : List Int := if insOk o d a b r l h t 4 10 && inB n 0 9 then nextL o t (n + 1) else []
theorem next_len (o d a b r l h t n : Int) : (insNext o d a b r l h t n).length < 1000000 := by
  unfold insNext nextL
  repeat' split
  all_goals simp
/-- v is the list zs, made behind B, in W. -/
def Made (B : Nat) (v : Value) (zs : List Int) (W : World) : Prop := ∃ (a : Option Addr) (cap g : Nat), v = .slice a zs.length cap ∧ LstAt B g a zs W
theorem Made.nil (B : Nat) (a : Option Addr) (cap : Nat) (W : World) : Made B (.slice a 0 cap) [] W := ⟨a, cap, 0, rfl, ⟨fun h => by simp at h, fun h => by simp at h, fun j h => by simp at h, fun h => by simp at h⟩⟩
theorem Made.one {B g cap : Nat} {x : Int} {W : World} (hg : B ≤ g ∧ g < W.heap.size) (h0 : W.cell? ⟨g, 0, none⟩ = some (.int .i64 x)) (hf : ∀ j, W.frozen? ⟨g, j, none⟩ = false) : Made B (.slice (some ⟨g, 0, none⟩) 1 cap) [x] W :=
  ⟨_, cap, g, rfl, ⟨fun _ => rfl, fun _ => hg, fun j h => by
    obtain rfl : j = 0 := by simpa using h
    exact h0, fun _ => hf⟩⟩
theorem Made.two {B g cap : Nat} {x y : Int} {W : World} (hg : B ≤ g ∧ g < W.heap.size) (h0 : W.cell? ⟨g, 0, none⟩ = some (.int .i64 x)) (h1 : W.cell? ⟨g, 1, none⟩ = some (.int .i64 y)) (hf : ∀ j, W.frozen? ⟨g, j, none⟩ = false) : Made B (.slice (some ⟨g, 0, none⟩) 2 cap) [x, y] W :=
  ⟨_, cap, g, rfl, ⟨fun _ => rfl, fun _ => hg, fun j h => by
    rcases (show j = 0 ∨ j = 1 by simp at h; omega) with rfl | rfl
    · exact h0
    · exact h1, fun _ => hf⟩⟩
theorem Made.weaken {B C : Nat} {v : Value} {zs : List Int} {W : World} (h : Made B v zs W) (hC : C ≤ B) : Made C v zs W := by
  obtain ⟨a, cap, g, rfl, k⟩ := h
  exact ⟨a, cap, g, rfl, ⟨k.at_, fun hz => ⟨Nat.le_trans hC (k.lo hz).1, (k.lo hz).2⟩, k.cell, k.free⟩⟩

set_option maxRecDepth 10000 in
set_option maxHeartbeats 4000000 in
theorem nextS (o d a b r l h t n : Int) (w : World) :
    Calls Try.prog 7 #[.agg #[.int .i64 o, .int .i64 d, .int .i64 a, .int .i64 b, .int .i64 r, .int .i64 l, .int .i64 h, .int .i64 t], .int .i64 n] w fun e w' => ∃ v, e = .returned v ∧ Made w.heap.size v (insNext o d a b r l h t n) w' ∧ Below w.heap.size w w' := by
  have b0 : Below w.heap.size w (w.alloc (.cells #[.int .i64 o, .int .i64 d, .int .i64 a, .int .i64 b, .int .i64 r, .int .i64 l, .int .i64 h, .int .i64 t] 24)) := (Below.refl _ _).alloc (Nat.le_refl _) _
  go_enter Try.func7, Try.ntmps7
  go_wp2_with fail
  refine (insOkS _ _ _ _ _ _ _ _ _ _ _).mono ?_
  rintro e w1 ⟨rfl, hb⟩
  have b1 := b0.trans (hb.mono (by simp))
  obtain ⟨hc, hf⟩ := bcell hb
  have hs : w.heap.size < w1.heap.size := by have := hb.size; simp at this; omega
  cases hk : insOk o d a b r l h t 4 10
  · go_wp2_with fail
    go_ret
    refine ⟨_, rfl, ?_, ?_⟩
    · simp only [insNext, hk, Bool.false_and, Bool.false_eq_true, if_false]; exact Made.nil _ _ _ _
    · repeat (first | exact b2 | exact b1 | exact Below.refl _ _ | refine Below.drew ?_ | refine Below.alloc ?_ (by first | exact b2.size | exact b1.size | (simp; try omega)) _)
  cases hn : inB n 0 9
  · go_wp2_with (go_at_call 19; refine (inS _ _ _ _).mono ?_; rintro e w' ⟨rfl, rfl⟩; rw [hn])
    go_ret
    refine ⟨_, rfl, ?_, ?_⟩
    · simp only [insNext, hk, hn, Bool.and_false, Bool.false_eq_true, if_false]; exact Made.nil _ _ _ _
    · repeat (first | exact b2 | exact b1 | exact Below.refl _ _ | refine Below.drew ?_ | refine Below.alloc ?_ (by first | exact b2.size | exact b1.size | (simp; try omega)) _)
  have hnn : 0 ≤ n ∧ n ≤ 9 := by simpa [inB] using hn
  have hw : IntKind.i64.wrap (n + 1) = n + 1 := i64_at (by omega) (by omega)
  have E : Hid (insNext o d a b r l h t n = nextL o t (n + 1)) := by show insNext o d a b r l h t n = nextL o t (n + 1); simp [insNext, hk, hn]
  clear hk
  by_cases h12 : o = 12
  · subst h12
    go_wp2_with (go_at_call 19; refine (inS _ _ _ _).mono ?_; rintro e w' ⟨rfl, rfl⟩; rw [hn])
    go_ret
    refine ⟨_, rfl, ?_, ?_⟩
    · rw [E.out]; simp only [nextL, if_true]; exact Made.nil _ _ _ _
    · repeat (first | exact b2 | exact b1 | exact Below.refl _ _ | refine Below.drew ?_ | refine Below.alloc ?_ (by first | exact b2.size | exact b1.size | (simp; try omega)) _)
  by_cases h9 : o = 9
  · subst h9
    go_wp2_with (go_at_call 19; refine (inS _ _ _ _).mono ?_; rintro e w' ⟨rfl, rfl⟩; rw [hn])
    go_ret
    refine ⟨_, rfl, ?_, ?_⟩
    · rw [E.out]; simp only [nextL, show ¬ (9 : Int) = 12 by omega, if_true, if_false]; exact Made.one (by constructor <;> first | omega | (simp; try omega)) (by simp [go_sem]) (fun j => by simp [go_sem])
    · repeat (first | exact b2 | exact b1 | exact Below.refl _ _ | refine Below.drew ?_ | refine Below.alloc ?_ (by first | exact b2.size | exact b1.size | (simp; try omega)) _)
  by_cases h8 : o = 8
  · subst h8
    rcases Int.lt_trichotomy t (n + 1) with h | h | h
    · go_wp2_with (go_at_call 19; refine (inS _ _ _ _).mono ?_; rintro e w' ⟨rfl, rfl⟩; rw [hn])
      go_ret
      refine ⟨_, rfl, ?_, ?_⟩
      · rw [E.out]; simp only [nextL, show ¬ (8 : Int) = 12 by omega, show ¬ (8 : Int) = 9 by omega, h, if_true, if_false]; exact Made.two (by constructor <;> first | omega | (simp; try omega)) (by simp [go_sem]) (by simp [go_sem]) (fun j => by simp [go_sem])
      · repeat (first | exact b2 | exact b1 | exact Below.refl _ _ | refine Below.drew ?_ | refine Below.alloc ?_ (by first | exact b2.size | exact b1.size | (simp; try omega)) _)
    · subst h
      go_wp2_with (go_at_call 19; refine (inS _ _ _ _).mono ?_; rintro e w' ⟨rfl, rfl⟩; rw [hn])
      go_ret
      refine ⟨_, rfl, ?_, ?_⟩
      · rw [E.out]; simp only [nextL, show ¬ (8 : Int) = 12 by omega, show ¬ (8 : Int) = 9 by omega, Int.lt_irrefl, if_true, if_false]; exact Made.one (by constructor <;> first | omega | (simp; try omega)) (by simp [go_sem]) (fun j => by simp [go_sem])
      · repeat (first | exact b2 | exact b1 | exact Below.refl _ _ | refine Below.drew ?_ | refine Below.alloc ?_ (by first | exact b2.size | exact b1.size | (simp; try omega)) _)
    · have h' : ¬ t < n + 1 := by omega
      go_wp2_with (go_at_call 19; refine (inS _ _ _ _).mono ?_; rintro e w' ⟨rfl, rfl⟩; rw [hn])
      go_ret
      refine ⟨_, rfl, ?_, ?_⟩
      · rw [E.out]; unfold nextL; rw [if_neg (by omega), if_neg (by omega), if_pos rfl, if_neg (show ¬ t < n + 1 by omega), if_pos (show n + 1 < t by omega)]; exact Made.two (by constructor <;> first | omega | (simp; try omega)) (by simp [go_sem]) (by simp [go_sem]) (fun j => by simp [go_sem])
      · repeat (first | exact b2 | exact b1 | exact Below.refl _ _ | refine Below.drew ?_ | refine Below.alloc ?_ (by first | exact b2.size | exact b1.size | (simp; try omega)) _)
  go_wp2_with (go_at_call 19; refine (inS _ _ _ _).mono ?_; rintro e w' ⟨rfl, rfl⟩; rw [hn])
  go_ret
  refine ⟨_, rfl, ?_, ?_⟩
  · rw [E.out]; simp only [nextL, h12, h9, h8, if_false]; exact Made.one (by constructor <;> first | omega | (simp; try omega)) (by simp [go_sem]) (fun j => by simp [go_sem])
  · repeat (first | exact b2 | exact b1 | exact Below.refl _ _ | refine Below.drew ?_ | refine Below.alloc ?_ (by first | exact b2.size | exact b1.size | (simp; try omega)) _)
end Go.Proofs.Ytafikmgpiklgkaa
