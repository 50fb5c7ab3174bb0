/- Copies of papers, and as values in a region. -/
import Derived.Test.YtdpkbbbfnmneiaaStsEq
namespace Go.Proofs.Ytdpkbbbfnmneiaa
open Go.ChangeShapes Go.WideShapes Go.ChangeAt Go.RowKit

/-- A copy of a paper: its rows in block g, row i's states in block C i, a state's bounds in block B i j; its sums in block h. -/
structure CertAt (g : Nat) (C : Nat → Nat) (B : Nat → Nat → Nat) (h : Nat) (R : Nat → Rw) (m : Nat) (U : Nat → Sm) (n : Nat) (W : World) : Prop where
  lt : h < W.heap.size
  gh : g < h
  fr : FreshR g m R C B W
  rows : RowsAt (some ⟨g, 0, none⟩) g 0 m R (ownR C B R) W
  sums : SumsAt (some ⟨h, 0, none⟩) h 0 n U W
theorem CertAt.next {g : Nat} {C : Nat → Nat} {B : Nat → Nat → Nat} {h : Nat} {R : Nat → Rw} {m : Nat} {U : Nat → Sm} {n : Nat} {W W' : World} (k : CertAt g C B h R m U n W) (hb : Below W.heap.size W W') : CertAt g C B h R m U n W' :=
  ⟨Nat.lt_of_lt_of_le k.lt hb.size, k.gh, k.fr.next hb, k.rows.next hb, k.sums.next hb⟩
theorem toCertX (a : Option Addr) (b off m cap : Nat) (R : Nat → Rw) (T : Nat → RSpot) (a' : Option Addr) (b' off' n cap' : Nat) (U : Nat → Sm) (w : World) (hm : m ≤ 1048576) (hn : ∀ i, i < m → (R i).n ≤ 1048576 ∧ ∀ j, j < (R i).n → ((R i).x j).n ≤ 1048576) (hn' : n ≤ 1048576) (hP : RowsAt a b off m R T w) (hU : SumsAt a' b' off' n U w) :
    Calls Try.prog 13 #[.agg #[.slice a m cap, .slice a' n cap']] w fun e w' => ∃ (g : Nat) (C : Nat → Nat) (B : Nat → Nat → Nat) (h : Nat), e = .returned (.agg #[.slice (some ⟨g, 0, none⟩) m m, .slice (some ⟨h, 0, none⟩) n n]) ∧ g < w'.heap.size ∧ CertAt g C B h R m U n w' ∧ Below w.heap.size w w' :=
  (toCert _ _ _ _ _ _ _ _ _ _ _ _ _ _ hm hn hn' hP hU).mono fun _ _ ⟨g, C, B, h, e1, _, h2, h3, h4, h5, h6, h7, h8⟩ => ⟨g, C, B, h, e1, h2, ⟨h3, h4, h6, h5, h7⟩, h8⟩
theorem eqCertX (g h g' h' m n : Nat) (R : Nat → Rw) (C E : Nat → Nat) (B D : Nat → Nat → Nat) (U : Nat → Sm) (w : World) (hm : m ≤ 1048576) (hn : ∀ i, i < m → (R i).n ≤ 1048576 ∧ ∀ j, j < (R i).n → ((R i).x j).n ≤ 1048576) (hn' : n ≤ 1048576) (h1 : CertAt g C B g' R m U n w) (h2 : CertAt h E D h' R m U n w) :
    Calls Try.prog 17 #[.agg #[.slice (some ⟨g, 0, none⟩) m m, .slice (some ⟨g', 0, none⟩) n n], .agg #[.slice (some ⟨h, 0, none⟩) m m, .slice (some ⟨h', 0, none⟩) n n]] w fun e w' => e = .returned (.bool true) ∧ Below w.heap.size w w' :=
  eqCert _ _ _ _ _ _ _ _ _ _ _ _ _ hm hn hn' h1.rows h2.rows h1.sums h2.sums
def CertV (R : Nat → Rw) (m : Nat) (U : Nat → Sm) (n : Nat) (v : Value) (W : World) : Prop := ∃ (g : Nat) (C : Nat → Nat) (B : Nat → Nat → Nat) (h : Nat), v = .agg #[.slice (some ⟨g, 0, none⟩) m m, .slice (some ⟨h, 0, none⟩) n n] ∧ g < W.heap.size ∧ CertAt g C B h R m U n W
theorem CertV.next {R : Nat → Rw} {m : Nat} {U : Nat → Sm} {n : Nat} {v : Value} {W W' : World} (h : CertV R m U n v W) (hb : Below W.heap.size W W') : CertV R m U n v W' := by
  obtain ⟨g, C, B, q, e, h1, h2⟩ := h
  exact ⟨g, C, B, q, e, Nat.lt_of_lt_of_le h1 hb.size, h2.next hb⟩
end Go.Proofs.Ytdpkbbbfnmneiaa
