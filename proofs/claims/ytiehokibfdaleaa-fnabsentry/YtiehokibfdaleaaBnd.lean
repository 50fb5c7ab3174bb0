/- Lists of bounds in memory, and states: bounds of variables, and of all cells together. What the laws count of them, copy, and hold against each other. -/
import Derived.Test.YtiehokibfdaleaaItv
import Derived.Test.YtiehokibfdaleaaRunTo
import Derived.Test.YtiehokibfdaleaaRegInv
import Derived.Test.YtiehokibfdaleaaDrawIs
import Derived.Deep.QuietTactic
import Derived.BigQuiet
namespace Go.Proofs.Ytiehokibfdaleaa
open Go.ChangeShapes Go.WideShapes Go.ChangeAt Go.RowKit

/-- n bounds lie at a, in block b from off on. -/
structure BndsAt (a : Option Addr) (b off n : Nat) (lo hi : Nat → Int) (W : World) : Prop where
  at_ : 0 < n → a = some ⟨b, off, none⟩
  lt : 0 < n → b < W.heap.size
  lo : ∀ k, k < n → W.cell? ⟨b, off + k * 2, none⟩ = some (.int .i64 (lo k))
  hi : ∀ k, k < n → W.cell? ⟨b, off + k * 2 + 1, none⟩ = some (.int .i64 (hi k))
theorem BndsAt.next {a : Option Addr} {b off n : Nat} {lo hi : Nat → Int} {W W' : World} (h : BndsAt a b off n lo hi W) (hb : Below W.heap.size W W') : BndsAt a b off n lo hi W' :=
  ⟨h.at_, fun hn => Nat.lt_of_lt_of_le (h.lt hn) hb.size, fun k hk => (hb.cell (p := ⟨b, off + k * 2, none⟩) (h.lt (by omega))).trans (h.lo k hk), fun k hk => (hb.cell (p := ⟨b, off + k * 2 + 1, none⟩) (h.lt (by omega))).trans (h.hi k hk)⟩
theorem BndsAt.set {a : Option Addr} {b off n : Nat} {lo hi : Nat → Int} {W : World} {G o : Nat} {vs : List Value} (h : BndsAt a b off n lo hi W) (hne : b ≠ G) : BndsAt a b off n lo hi (setAll G o vs W) :=
  have k : ∀ q, (setAll G o vs W).cell? ⟨b, q, none⟩ = W.cell? ⟨b, q, none⟩ := fun q => setAll_other _ _ _ _ (fun j' _ e => hne (by injection e))
  ⟨h.at_, fun hn => Nat.lt_of_lt_of_le (h.lt hn) (setAll_below (B := 0) (w := W) (Nat.zero_le _) vs o W (Below.refl _ _)).size, fun i hi => (k _).trans (h.lo i hi), fun i hi => (k _).trans (h.hi i hi)⟩
/-- A state: whether something comes there, bounds of its variables, and of its cells. -/
structure St where
  on : Bool
  n : Nat
  lo : Nat → Int
  hi : Nat → Int
  c : Int
  d : Int
/-- The state's own value, its list at a. -/
def stV (s : St) (a : Option Addr) (cap : Nat) : Value := .agg #[.bool s.on, .slice a s.n cap, .int .i64 s.c, .int .i64 s.d]
def StAt (a : Option Addr) (b off : Nat) (s : St) (W : World) : Prop := BndsAt a b off s.n s.lo s.hi W

end Go.Proofs.Ytiehokibfdaleaa
