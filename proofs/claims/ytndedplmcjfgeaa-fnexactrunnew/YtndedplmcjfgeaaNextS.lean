/- Where a step leads to: plainly, and the model's InsNext. -/
import Derived.Test.YtndedplmcjfgeaaInsS5
import Derived.Test.YtndedplmcjfgeaaLst
import Derived.WalkKit
import Derived.ProofKit
import Derived.OpenShut
import Derived.Below
namespace Go.Proofs.Ytndedplmcjfgeaa
open Go.ChangeShapes Go.WideShapes Go.ChangeAt Go.RowKit
theorem i64_at {n : Int} (h1 : -9223372036854775808 ≤ n) (h2 : n ≤ 9223372036854775807) : IntKind.i64.wrap n = n := by
  simp [IntKind.wrap, IntKind.signed, IntKind.bits]
  omega
/-- Where a step at a place leads to. -/
def nextL (o t n : Int) : List Int :=
  if o = 12 then [] else if o = 9 then [t] else if o = 8 then (if t < n then [t, n] else if n < t then [n, t] else [n]) else [n]
def insNext (o d a b r l h t n : Int) : List Int := if insOk o d a b r l h t 4 10 && inB n 0 9 then nextL o t (n + 1) else []
theorem next_len (o d a b r l h t n : Int) : (insNext o d a b r l h t n).length < 1000000 := by
  unfold insNext nextL
  repeat' split
  all_goals simp
/-- v is the list zs, made behind B, in W. -/
def Made (B : Nat) (v : Value) (zs : List Int) (W : World) : Prop := ∃ (a : Option Addr) (cap g : Nat), v = .slice a zs.length cap ∧ LstAt B g a zs W
theorem Made.nil (B : Nat) (a : Option Addr) (cap : Nat) (W : World) : Made B (.slice a 0 cap) [] W := ⟨a, cap, 0, rfl, ⟨fun h => by simp at h, fun h => by simp at h, fun j h => by simp at h, fun h => by simp at h⟩⟩
theorem Made.one {B g cap : Nat} {x : Int} {W : World} (hg : B ≤ g ∧ g < W.heap.size) (h0 : W.cell? ⟨g, 0, none⟩ = some (.int .i64 x)) (hf : ∀ j, W.frozen? ⟨g, j, none⟩ = false) : Made B (.slice (some ⟨g, 0, none⟩) 1 cap) [x] W :=
  ⟨_, cap, g, rfl, ⟨fun _ => rfl, fun _ => hg, fun j h => by
    obtain rfl : j = 0 := by simpa using h
    exact h0, fun _ => hf⟩⟩
theorem Made.two {B g cap : Nat} {x y : Int} {W : World} (hg : B ≤ g ∧ g < W.heap.size) (h0 : W.cell? ⟨g, 0, none⟩ = some (.int .i64 x)) (h1 : W.cell? ⟨g, 1, none⟩ = some (.int .i64 y)) (hf : ∀ j, W.frozen? ⟨g, j, none⟩ = false) : Made B (.slice (some ⟨g, 0, none⟩) 2 cap) [x, y] W :=
  ⟨_, cap, g, rfl, ⟨fun _ => rfl, fun _ => hg, fun j h => by
    rcases (show j = 0 ∨ j = 1 by simp at h; omega) with rfl | rfl
    · exact h0
    · exact h1, fun _ => hf⟩⟩
theorem Made.weaken {B C : Nat} {v : Value} {zs : List Int} {W : World} (h : Made B v zs W) (hC : C ≤ B) : Made C v zs W := by
  obtain ⟨a, cap, g, rfl, k⟩ := h
  exact ⟨a, cap, g, rfl, ⟨k.at_, fun hz => ⟨Nat.le_trans hC (k.lo hz).1, (k.lo hz).2⟩, k.cell, k.free⟩⟩

end Go.Proofs.Ytndedplmcjfgeaa
