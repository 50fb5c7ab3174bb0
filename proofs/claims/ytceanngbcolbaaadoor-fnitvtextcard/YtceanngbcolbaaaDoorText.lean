/- What NumText answers, the model's and the program's: the decimal numeral of a number, else the empty text. Condition of the second: the table of powers of ten of strconv holds what its initialiser lays. -/
import Derived.Test.YtceanngbcolbaaaDoorShelf
import Derived.Test.YtceanngbcolbaaaDoorNums
import Derived.WalkKit
import Derived.ProofKit
import Derived.OpenShut
import Derived.Below
import Derived.WalkLawsBesides
import Derived.Laws.IdiomStrings
import Derived.Lib.ItoaLen
namespace Go.Proofs.YtceanngbcolbaaaDoor
open Go.ChangeShapes Go.WideShapes Go.ChangeAt Go.RowKit

theorem cons_cat (x : UInt8) (acc : List UInt8) : (⟨#[x]⟩ : ByteArray) ++ ⟨acc.toArray⟩ = ⟨(x :: acc).toArray⟩ := by
  rw [ByteArray.mk_append_mk]; simp

theorem conv1 (wr : World) (k : Nat) (h : 48 + k < 256) :
    (convert 22 9 (.slice (some ⟨wr.heap.size, 0, none⟩) 1 1)).run Tryd.prog (wr.alloc (.cells #[.int .u8 (48 + (k : Int))] 5)) = .ok (.string ⟨#[dgt k]⟩) (wr.alloc (.cells #[.int .u8 (48 + (k : Int))] 5)) := by
  have hb := dgt_nat k h
  refine run_convert_bytes_back (P := Tryd.prog) (wr.alloc (.cells #[.int .u8 (48 + (k : Int))] 5)) 22 9 5 ⟨wr.heap.size, 0, none⟩ 1 [dgt k] Tryd.underlying22 Tryd.underlying5 Tryd.underlying9 ?_
  intro j hj
  obtain rfl : j = 0 := by simpa using hj
  have hc : (wr.alloc (.cells #[.int .u8 (48 + (k : Int))] 5)).cell? ⟨wr.heap.size, 0, none⟩ = some (.int .u8 (48 + (k : Int))) := by
    unfold World.cell?
    rw [heap_alloc_new]
    simp
  have e : ((48 + k : Nat) : Int) = 48 + (k : Int) := by omega
  simp [hb, Addr.add, e, hc]

set_option maxHeartbeats 1000000 in
theorem plainS (n : Nat) (w : World) (hn : n < 1000000) :
    Calls Tryd.prog 32 #[.int .i64 n] w fun e w' => e = .returned (.string ⟨(Lib.decDigits n).toArray⟩) ∧ Below w.heap.size w w' := by
  go_enter Tryd.func32, Tryd.ntmps32
  go_wp2
  go_loopw [0, 3] (fun i s wr => ∃ (k : Nat) (acc : List UInt8), k ≤ n ∧ i = .int .i64 k ∧ s = .string ⟨acc.toArray⟩ ∧ Lib.decDigits k ++ acc = Lib.decDigits n ∧ acc.length + k ≤ n ∧ Below w.heap.size w wr) (fun i _ _ => (intOf i).toNat)
  case atStart => exact ⟨n, [], Nat.le_refl _, rfl, rfl, by simp, by simp, Below.refl _ _⟩
  case round =>
    obtain ⟨k, acc, hk, rfl, rfl, hd, hl, hg⟩ := hrel
    by_cases h9 : k < 10
    · have HD : Hid (Lib.decDigits k ++ acc = Lib.decDigits n) := hd
      clear hd
      have i9 : ¬ (9 : Int) < (k : Int) := by omega
      have hcv := conv1 wr k (by omega)
      go_wp2
      go_ret
      refine ⟨ret_str ?_, hg.alloc hg.size _⟩
      rw [cons_cat, ← HD.out, dec_small k h9]
      rfl
    · have HD : Hid (Lib.decDigits k ++ acc = Lib.decDigits n) := hd
      clear hd
      have i9 : (9 : Int) < (k : Int) := by omega
      have hcv := conv1 wr (k % 10) (by omega)
      have hcm : (((k % 10 : Nat) : Int)) = (k : Int) % 10 := by omega
      rw [hcm] at hcv
      clear hcm
      go_wp2
      refine ⟨⟨k / 10, dgt (k % 10) :: acc, by omega, by go_num, by rw [cons_cat], ?_, by simp; omega, hg.alloc hg.size _⟩, by simp [intOf]; omega⟩
      rw [← HD.out, dec_step k h9]
      simp


theorem digitsS (n : Int) (w : World) (h1 : -32768 ≤ n) (h2 : n ≤ 32767) :
    Calls Tryd.prog 21 #[.int .i64 n] w fun e w' => e = .returned (.string ⟨(Lib.itoa n).toArray⟩) ∧ Below w.heap.size w w' := by
  by_cases h0 : n < 0
  · obtain ⟨u, rfl⟩ : ∃ u : Nat, n = -(u : Int) := ⟨n.natAbs, by omega⟩
    have e1 : Lib.itoa (-(u : Int)) = 45 :: Lib.decDigits u := by unfold Lib.itoa; rw [if_pos h0]; simp
    have hlen : (Lib.decDigits u).length ≤ 1000 := by
      have := Lib.itoa_length_le (-(u : Int)) (by omega) (by omega)
      rw [e1] at this
      simp at this
      omega
    rw [e1]
    clear e1
    go_enter Tryd.func21, Tryd.ntmps21
    go_wp2_with fail
    refine (plainS u _ (by omega)).mono ?_
    rintro e w1 ⟨rfl, hg⟩
    go_wp2_with fail
    go_ret
    refine ⟨ret_str ?_, hg⟩
    exact cons_cat 45 _
  · obtain ⟨u, rfl⟩ := Int.eq_ofNat_of_zero_le (by omega : 0 ≤ n)
    have e1 : Lib.itoa (u : Int) = Lib.decDigits u := by unfold Lib.itoa; rw [if_neg h0]; simp
    rw [e1]
    clear e1
    go_enter Tryd.func21, Tryd.ntmps21
    go_wp2_with fail
    refine (plainS u _ (by omega)).mono ?_
    rintro e w1 ⟨rfl, hg⟩
    go_wp2_with fail
    go_ret
    exact ⟨rfl, hg⟩


theorem textS (n : Int) (w : World) :
    Calls Tryd.prog 30 #[.int .i64 n] w fun e w' => e = .returned (.string ⟨(textOf n).toArray⟩) ∧ Below w.heap.size w w' := by
  rcases Bool.eq_false_or_eq_true (okB n) with h | h
  · have e1 : textOf n = Lib.itoa n := by exact textOf_ok h
    rw [e1]
    clear e1
    go_enter Tryd.func30, Tryd.ntmps30
    go_wp2_with (first | (go_at_call 22; refine (okS _ _).mono ?_; rintro e w' ⟨rfl, rfl⟩) | (go_at_call 21; refine (digitsS _ _ (ok_lo h) (ok_hi h)).mono ?_; rintro e w' ⟨rfl, hg⟩))
    go_ret
    exact ⟨rfl, hg⟩
  · have e1 : textOf n = [] := by exact textOf_no h
    rw [e1]
    clear e1
    go_enter Tryd.func30, Tryd.ntmps30
    go_wp2_with (first | (go_at_call 22; refine (okS _ _).mono ?_; rintro e w' ⟨rfl, rfl⟩))
    go_ret
    exact ⟨rfl, Below.refl _ _⟩

theorem grown_grow (w : World) (k : Nat) (os : Array Obj) : Below w.heap.size w (Sort.grow (w.drewN k) os) := by
  exact (below_dn (Below.refl _ w) k).trans ⟨rfl, rfl, rfl, by simp [Sort.grow], fun i hi => by simp [Sort.grow, Array.getElem?_append, hi]⟩
theorem var_below {P : Program} {w w' : World} {name : String} {v : Array Value} (h : w.var? P name = some v) (hb : Below w.heap.size w w') : w'.var? P name = some v := by
  unfold World.var? at *
  cases hg : P.globalNamed name with
  | none => simp [hg] at h
  | some g =>
    simp only [hg, Option.bind_some] at h ⊢
    have hlt : g < w.heap.size := by
      rcases Nat.lt_or_ge g w.heap.size with h' | h'
      · exact h'
      · rw [Array.getElem?_eq_none h'] at h; simp at h
    rw [hb.block g hlt]
    exact h
theorem tab_below {P : Program} {w w' : World} {name : String} {k : IntKind} {zs : List Int} (h : Lib.TabIs P w name k zs) (hb : Below w.heap.size w w') : Lib.TabIs P w' name k zs := by
  unfold Lib.TabIs World.var? at *
  cases hg : P.globalNamed name with
  | none => simp [hg] at h
  | some g =>
    simp only [hg, Option.bind_some] at h ⊢
    have hlt : g < w.heap.size := by
      rcases Nat.lt_or_ge g w.heap.size with h' | h'
      · exact h'
      · rw [Array.getElem?_eq_none h'] at h; simp at h
    rw [hb.block g hlt]
    exact h

theorem textI (n : Int) (w : World) (htab : Lib.TabIs Tryd.prog w "internal/strconv.uint64pow10" .u64 Lib.pow10Tab) :
    Calls Tryd.prog 20 #[.int .i64 n] w fun e w' => e = .returned (.string ⟨(textOf n).toArray⟩) ∧ Below w.heap.size w w' := by
  rcases Bool.eq_false_or_eq_true (okB n) with h | h
  · have e1 : textOf n = Lib.itoa n := by exact textOf_ok h
    rw [e1]
    clear e1
    have ha := ok_lo h
    have hb := ok_hi h
    go_enter Tryd.func20, Tryd.ntmps20
    go_wp2_with (first | (go_at_call 23; refine (okI _ _).mono ?_; rintro e w' ⟨rfl, rfl⟩) | (go_at_call 31; refine (Tryd.strconv_Itoa _ (by omega) (by omega) _ htab).mono ?_; rintro e w' ⟨rfl, kk, os, rfl⟩))
    go_ret
    exact ⟨rfl, grown_grow _ _ _⟩
  · have e1 : textOf n = [] := by exact textOf_no h
    rw [e1]
    clear e1
    go_enter Tryd.func20, Tryd.ntmps20
    go_wp2_with (first | (go_at_call 23; refine (okI _ _).mono ?_; rintro e w' ⟨rfl, rfl⟩))
    go_ret
    exact ⟨rfl, Below.refl _ _⟩
end Go.Proofs.YtceanngbcolbaaaDoor
