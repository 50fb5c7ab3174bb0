/- What ItvRead tells, the model's (S). Condition: at most 1048576 bytes. -/
import Derived.Test.YtceanngbcolbaaaDoorPlainRead
import Derived.Test.YtceanngbcolbaaaDoorHeld
import Derived.Test.YtceanngbcolbaaaDoorRead
import Derived.Test.YtceanngbcolbaaaDoorItvReadI
import Derived.WalkKit
import Derived.ProofKit
import Derived.OpenShut
import Derived.Below
import Derived.Lib.IndexBytes
namespace Go.Proofs.YtceanngbcolbaaaDoor
open Go.ChangeShapes Go.WideShapes Go.ChangeAt Go.RowKit

/-- No two dots begin at a place below k. -/
def NoDots (l : List UInt8) (k : Nat) : Prop := ∀ j, j < k → Lib.occAt l [46, 46] j = false
theorem NoDots.succ {l : List UInt8} {k : Nat} (h : NoDots l k) (hk : Lib.occAt l [46, 46] k = false) : NoDots l (k + 1) := fun j hj => by
  by_cases e : j < k
  · exact h j e
  · obtain rfl : j = k := by omega
    exact hk
theorem occ_cons {l : List UInt8} {k : Nat} {c d : UInt8} {r : List UInt8} (h : l.drop k = c :: d :: r) : Lib.occAt l [46, 46] k = (c == 46 && d == 46) := by
  unfold Lib.occAt
  rw [h]
  have e1 : ((46 : UInt8) == c) = (c == 46) := BEq.comm
  have e2 : ((46 : UInt8) == d) = (d == 46) := BEq.comm
  show ((46 : UInt8) == c && ((46 : UInt8) == d && List.isPrefixOf [] r)) = _
  rw [e1, e2, List.isPrefixOf_nil_left, Bool.and_true]
/-- No two dots within the first eight places, or none at all: no bounds' text. -/
theorem isItv_none {l : List UInt8} {k : Nat} (h : NoDots l k) (hk : 8 ≤ k ∨ l.length ≤ k + 1) : IsItv l 0 0 false := by
  refine .inr ⟨rfl, rfl, rfl, fun p q hpq e => ?_⟩
  have n := itoa_small (itvOk_of hpq).1
  have o := occ_dots (x := Lib.itoa p) (y := Lib.itoa q)
  unfold itvTx at e
  have hl : l.length = (Lib.itoa p).length + (2 + (Lib.itoa q).length) := by rw [← e]; simp; omega
  rw [e] at o
  rw [h _ (by omega)] at o
  cases o

/-- How ItvRead ends. -/
def Out (s : ByteArray) (w : World) (e : Ending) (w' : World) : Prop := ∃ (x y : Int) (b : Bool), e = .returned (.tuple #[.agg #[.int .i64 x, .int .i64 y], .bool b]) ∧ IsItv s.data.toList x y b ∧ Below w.heap.size w w'
theorem Out.mk {s : ByteArray} {w : World} {e : Ending} {w' : World} (x y : Int) (b : Bool) (h : e = .returned (.tuple #[.agg #[.int .i64 x, .int .i64 y], .bool b])) (k : IsItv s.data.toList x y b) (hb : Below w.heap.size w w') : Out s w e w' := ⟨x, y, b, h, k, hb⟩
theorem take_back (s : ByteArray) (k : Nat) : (s.extract 0 k).data.toList = s.data.toList.take k := by
  rw [ByteArray.data_extract]; simp
/-- A text whose first two dots stand at k. -/
theorem first_dots {l : List UInt8} {k : Nat} {r : List UInt8} (hno : NoDots l k) (hc : l.drop k = 46 :: 46 :: r) : l = l.take k ++ ([46, 46] ++ r) ∧ ∀ x y, itvOk x y = true → itvTx x y = l → l.take k = Lib.itoa x := by
  have hk : k ≤ l.length := by
    rcases Nat.lt_or_ge l.length k with h | h
    · rw [List.drop_eq_nil_of_le (by omega)] at hc; cases hc
    · exact h
  refine ⟨?_, fun x y _ e => ?_⟩
  · conv => lhs; rw [← List.take_append_drop k l, hc]
    rfl
  · have i1 := Lib.index_first hk ((occ_cons hc).trans rfl) hno
    have i2 := index_dots (x := Lib.itoa x) (y := Lib.itoa y) (itoa_nodot x)
    unfold itvTx at e
    rw [e, i1] at i2
    have e2 : k = (Lib.itoa x).length := by omega
    rw [e2, ← e]
    simp

set_option maxHeartbeats 4000000 in
theorem itvReadS (s : ByteArray) (w : World) (hs : s.size ≤ 1048576) :
    Calls Tryd.prog 7 #[.string s] w fun e w' => Out s w e w' := by
  have hlen := len_back s
  have H0 : HeldL w [(w.heap.size, [.int .i64 0, .int .i64 0])] (w.alloc (.cells #[.int .i64 0, .int .i64 0] 24)) := HeldL.new (HeldL.nil w)
  go_enter Tryd.func7, Tryd.ntmps7
  go_wp2_with fail
  go_loop [4] (fun i => ∃ k : Nat, k ≤ 8 ∧ i = .int .i64 k ∧ NoDots s.data.toList k) (fun i => 8 - (intOf i).toNat)
  case atStart => exact ⟨0, by omega, rfl, fun j hj => by omega⟩
  case round =>
    obtain ⟨k, hk, rfl, hno⟩ := hrel
    by_cases hlt : k + 1 < s.size ∧ k < 8
    · have hcons : s.data.toList.drop k = s[k] :: s[k + 1] :: s.data.toList.drop (k + 2) := by
        rw [List.drop_eq_getElem_cons (by omega), List.drop_eq_getElem_cons (by omega)]; rfl
      have ho := occ_cons hcons
      have i1 : (k : Int) + 1 < (s.size : Int) := by omega
      have i2 : (k : Int) < 8 := by omega
      have i3 : (k : Int) < (s.size : Int) := by omega
      by_cases h1 : s[k] = 46
      · have t1 : (((s[k].toNat : Nat) : Int) == 46) = true := by rw [h1]; rfl
        by_cases h2 : s[k + 1] = 46
        · have t2 : (((s[k + 1].toNat : Nat) : Int) == 46) = true := by rw [h2]; rfl
          have hd : s.data.toList.drop k = 46 :: 46 :: s.data.toList.drop (k + 2) := by rw [hcons, h1, h2]
          obtain ⟨hl, hu⟩ := first_dots hno hd
          have HH : Hid (∀ (n1 n2 : Int) (b1 b2 : Bool), IsRead (s.data.toList.take k) n1 b1 → IsRead (s.data.toList.drop (k + 2)) n2 b2 → IsItv s.data.toList (if b1 && b2 && decide (n1 ≤ n2) then n1 else 0) (if b1 && b2 && decide (n1 ≤ n2) then n2 else 0) (b1 && b2 && decide (n1 ≤ n2))) := fun n1 n2 b1 b2 r1 r2 => isItv_parts hl hu r1 r2
          have z1 : (s.extract 0 k).size ≤ 1048576 := by rw [← len_back, take_back, List.length_take]; omega
          have z2 : (s.extract (k + 2) s.size).size ≤ 1048576 := by rw [← len_back, Lib.extract_to_end, List.length_drop]; omega
          have i4 : (k : Int) + 2 ≤ (s.size : Int) := by omega
          clear hl hu hd ho hcons hno h1 h2
          go_wp2_with fail
          refine (readS (s.extract 0 k) _ z1).mono ?_
          rintro e w2 ⟨n1, b1, rfl, r1, g1⟩
          have H2 := HeldL.next g1 H0
          go_wp2_with fail
          refine (readS (s.extract (k + 2) s.size) _ z2).mono ?_
          rintro e w3 ⟨n2, b2, rfl, r2, g2⟩
          have H3 := HeldL.next g2 H2
          rw [take_back] at r1
          rw [Lib.extract_to_end] at r2
          have K : IsItv s.data.toList (if b1 && b2 && decide (n1 ≤ n2) then n1 else 0) (if b1 && b2 && decide (n1 ≤ n2) then n2 else 0) (b1 && b2 && decide (n1 ≤ n2)) := HH n1 n2 b1 b2 r1 r2
          have c0 : w3.cell? ⟨w.heap.size, 0, none⟩ = some (.int .i64 0) := H3.cell List.mem_cons_self (i := 0) rfl
          have c1 : w3.cell? ⟨w.heap.size, 1, none⟩ = some (.int .i64 0) := H3.cell List.mem_cons_self (i := 1) rfl
          have f0 : ∀ i, w3.frozen? ⟨w.heap.size, i, none⟩ = false := H3.free (w.heap.size, [.int .i64 0, .int .i64 0]) List.mem_cons_self
          have b3 := H3.below
          clear H0 H2 H3 g1 g2 r1 r2 HH z1 z2
          cases b1
          · have K' : IsItv s.data.toList 0 0 false := by simpa using K
            clear K
            go_wp2_with fail
            refine bodyPost_ret (v := .tuple #[.agg #[.int .i64 0, .int .i64 0], .bool false]) (by simp [results, Tryd.results7, go_sem, cell_set, c0, c1]) rfl (Out.mk _ _ _ rfl K' ?_)
            repeat (first | exact b3 | refine Below.drew ?_ | refine Below.setCell ?_ (by simp; try omega) _)
          cases b2
          · have K' : IsItv s.data.toList 0 0 false := by simpa using K
            clear K
            go_wp2_with fail
            refine bodyPost_ret (v := .tuple #[.agg #[.int .i64 0, .int .i64 0], .bool false]) (by simp [results, Tryd.results7, go_sem, cell_set, c0, c1]) rfl (Out.mk _ _ _ rfl K' ?_)
            repeat (first | exact b3 | refine Below.drew ?_ | refine Below.setCell ?_ (by simp; try omega) _)
          by_cases hle : n1 ≤ n2
          · have K' : IsItv s.data.toList n1 n2 true := by simpa [hle] using K
            clear K
            go_wp2_with fail
            refine bodyPost_ret (v := .tuple #[.agg #[.int .i64 n1, .int .i64 n2], .bool true]) (by simp [results, Tryd.results7, go_sem, cell_set, c0, c1]) rfl (Out.mk _ _ _ rfl K' ?_)
            repeat (first | exact b3 | refine Below.drew ?_ | refine Below.setCell ?_ (by simp; try omega) _)
          · have K' : IsItv s.data.toList 0 0 false := by simpa [hle] using K
            clear K
            go_wp2_with fail
            refine bodyPost_ret (v := .tuple #[.agg #[.int .i64 0, .int .i64 0], .bool false]) (by simp [results, Tryd.results7, go_sem, cell_set, c0, c1]) rfl (Out.mk _ _ _ rfl K' ?_)
            repeat (first | exact b3 | refine Below.drew ?_ | refine Below.setCell ?_ (by simp; try omega) _)
        · have t2 : (((s[k + 1].toNat : Nat) : Int) == 46) = false := by
            simp
            exact fun e => h2 (UInt8.toNat_inj.1 (by simpa using (by omega : s[k + 1].toNat = 46)))
          have hn := hno.succ (by rw [ho]; simp [h2])
          clear ho hcons h1 h2 hno
          go_wp2_with fail
          go_round
          case rel => exact ⟨k + 1, by omega, by go_num, hn⟩
          case measure => simp [intOf]; omega
      · have t1 : (((s[k].toNat : Nat) : Int) == 46) = false := by
          simp
          exact fun e => h1 (UInt8.toNat_inj.1 (by simpa using (by omega : s[k].toNat = 46)))
        have hn := hno.succ (by rw [ho]; simp [h1])
        clear ho hcons h1 hno
        go_wp2_with fail
        go_round
        case rel => exact ⟨k + 1, by omega, by go_num, hn⟩
        case measure => simp [intOf]; omega
    · have K := isItv_none hno (by omega)
      clear hno
      by_cases hl2 : k + 1 < s.size
      · have i1 : (k : Int) + 1 < (s.size : Int) := by omega
        have i2 : ¬ (k : Int) < 8 := by omega
        go_wp2_with fail
        refine bodyPost_ret (v := .tuple #[.agg #[.int .i64 0, .int .i64 0], .bool false]) (by simp [results, Tryd.results7, go_sem]) rfl (Out.mk _ _ _ rfl K ?_)
        repeat (first | exact H0.below | refine Below.drew ?_ | refine Below.alloc ?_ (by simp; try omega) _ | refine Below.setCell ?_ (by simp; try omega) _ | exact Below.refl _ _)
      · have i1 : ¬ (k : Int) + 1 < (s.size : Int) := by omega
        go_wp2_with fail
        refine bodyPost_ret (v := .tuple #[.agg #[.int .i64 0, .int .i64 0], .bool false]) (by simp [results, Tryd.results7, go_sem]) rfl (Out.mk _ _ _ rfl K ?_)
        repeat (first | exact H0.below | refine Below.drew ?_ | refine Below.alloc ?_ (by simp; try omega) _ | refine Below.setCell ?_ (by simp; try omega) _ | exact Below.refl _ _)
end Go.Proofs.YtceanngbcolbaaaDoor
