/- What ItvRead tells, the program's (I). Conditions: at most 1048576 bytes; the library's table and errors hold what their initialisers lay; the library's variable internal/bytealg.MaxLen holds some int. -/
import Derived.Test.YtceanngbcolbaaaDoorPlainRead
import Derived.Test.YtceanngbcolbaaaDoorHeld
import Derived.Test.YtceanngbcolbaaaDoorRead
import Derived.WalkKit
import Derived.ProofKit
import Derived.OpenShut
import Derived.Below
namespace Go.Proofs.YtceanngbcolbaaaDoor
open Go.ChangeShapes Go.WideShapes Go.ChangeAt Go.RowKit

theorem list_back (u : List UInt8) : (⟨u.toArray⟩ : ByteArray).data.toList = u := by simp
theorem size_back (u : List UInt8) : (⟨u.toArray⟩ : ByteArray).size = u.length := by simp [ByteArray.size]
theorem len_back (s : ByteArray) : s.data.toList.length = s.size := by rw [Array.length_toList]; rfl

set_option maxHeartbeats 4000000 in
theorem itvReadI (s : ByteArray) (w : World) (hs : s.size ≤ 1048576) (htab : Lib.TabIs Tryd.prog w "internal/strconv.uint64pow10" .u64 Lib.pow10Tab) (tp tq : TypeId) (p q : Value)
    (hp : w.var? Tryd.prog "strconv.ErrSyntax" = some #[.iface tp p]) (hq : w.var? Tryd.prog "strconv.ErrRange" = some #[.iface tq q]) (m : Int) (hm : w.cell? ⟨0, 0, none⟩ = some (.int .i64 m)) :
    Calls Tryd.prog 6 #[.string s] w fun e w' => ∃ (x y : Int) (b : Bool), e = .returned (.tuple #[.agg #[.int .i64 x, .int .i64 y], .bool b]) ∧ IsItv s.data.toList x y b ∧ Below w.heap.size w w' := by
  have hmlt : 0 < w.heap.size := World.block_lt_of_cell? w _ hm
  have b0 := (Below.refl w.heap.size w).alloc (Nat.le_refl _) (.cells #[.int .i64 0, .int .i64 0] 24)
  have H0 : HeldL w [(w.heap.size, [.int .i64 0, .int .i64 0])] (w.alloc (.cells #[.int .i64 0, .int .i64 0] 24)) := HeldL.new (HeldL.nil w)
  by_cases hi : 0 ≤ Lib.index s.data.toList [46, 46]
  · have hc : Lib.cut s.data.toList [46, 46] = (s.data.toList.take (Lib.index s.data.toList [46, 46]).toNat, s.data.toList.drop ((Lib.index s.data.toList [46, 46]).toNat + 2), true) := by
      unfold Lib.cut
      rw [if_pos hi]
      rfl
    have hl := cut_found hi
    have hu : ∀ x y, itvOk x y = true → itvTx x y = s.data.toList → s.data.toList.take (Lib.index s.data.toList [46, 46]).toNat = Lib.itoa x := by
      intro x y _ e
      have k := index_dots (x := Lib.itoa x) (y := Lib.itoa y) (itoa_nodot x)
      unfold itvTx at e
      rw [e] at k
      rw [k]
      rw [← e]
      simp
    have hlu : (s.data.toList.take (Lib.index s.data.toList [46, 46]).toNat).length ≤ 1048576 := by rw [List.length_take, len_back]; omega
    have hlv : (s.data.toList.drop ((Lib.index s.data.toList [46, 46]).toNat + 2)).length ≤ 1048576 := by rw [List.length_drop, len_back]; omega
    generalize s.data.toList.take (Lib.index s.data.toList [46, 46]).toNat = u at hc hl hu hlu
    generalize s.data.toList.drop ((Lib.index s.data.toList [46, 46]).toNat + 2) = v at hc hl hlv
    have HH : Hid (∀ (n1 n2 : Int) (b1 b2 : Bool), IsRead u n1 b1 → IsRead v n2 b2 → IsItv s.data.toList (if b1 && b2 && decide (n1 ≤ n2) then n1 else 0) (if b1 && b2 && decide (n1 ≤ n2) then n2 else 0) (b1 && b2 && decide (n1 ≤ n2))) := fun n1 n2 b1 b2 r1 r2 => isItv_parts hl hu r1 r2
    clear hl hu hi
    go_enter Tryd.func6, Tryd.ntmps6
    go_wp2_with fail
    refine (Tryd.strings_Cut s ⟨#[46, 46]⟩ m _ (by omega) ((b0.cell (p := ⟨0, 0, none⟩) hmlt).trans hm)).mono ?_
    rintro e w1 ⟨rfl, n, rfl⟩
    rw [show (⟨#[46, 46]⟩ : ByteArray).data.toList = [46, 46] from rfl, hc]
    clear hc
    have H1 := HeldL.next ((below_dn (Below.refl _ _) n)) H0
    go_wp2_with fail
    refine (readI ⟨u.toArray⟩ _ (by rw [size_back]; exact hlu) (tab_below htab H1.below) tp tq p q (var_below hp H1.below) (var_below hq H1.below)).mono ?_
    rintro e w2 ⟨n1, b1, rfl, r1, g1⟩
    have H2 := HeldL.next g1 H1
    go_wp2_with fail
    refine (readI ⟨v.toArray⟩ _ (by rw [size_back]; exact hlv) (tab_below htab H2.below) tp tq p q (var_below hp H2.below) (var_below hq H2.below)).mono ?_
    rintro e w3 ⟨n2, b2, rfl, r2, g2⟩
    have H3 := HeldL.next g2 H2
    try rw [list_back] at r1
    try rw [list_back] at r2
    have K : IsItv s.data.toList (if b1 && b2 && decide (n1 ≤ n2) then n1 else 0) (if b1 && b2 && decide (n1 ≤ n2) then n2 else 0) (b1 && b2 && decide (n1 ≤ n2)) := HH n1 n2 b1 b2 r1 r2
    have c0 : w3.cell? ⟨w.heap.size, 0, none⟩ = some (.int .i64 0) := H3.cell List.mem_cons_self (i := 0) rfl
    have c1 : w3.cell? ⟨w.heap.size, 1, none⟩ = some (.int .i64 0) := H3.cell List.mem_cons_self (i := 1) rfl
    have f0 : ∀ i, w3.frozen? ⟨w.heap.size, i, none⟩ = false := H3.free (w.heap.size, [.int .i64 0, .int .i64 0]) List.mem_cons_self
    have b3 := H3.below
    clear H0 H1 H2 H3 g1 g2 r1 r2 HH hlu hlv
    cases b1
    · have K' : IsItv s.data.toList 0 0 false := by simpa using K
      clear K
      go_wp2_with fail
      refine bodyPost_ret (v := .tuple #[.agg #[.int .i64 0, .int .i64 0], .bool false]) (by simp [results, Tryd.results6, go_sem, cell_set, c0, c1]) rfl ⟨_, _, _, rfl, K', ?_⟩
      repeat (first | exact b3 | refine Below.drew ?_ | refine Below.setCell ?_ (by simp; try omega) _)
    cases b2
    · have K' : IsItv s.data.toList 0 0 false := by simpa using K
      clear K
      go_wp2_with fail
      refine bodyPost_ret (v := .tuple #[.agg #[.int .i64 0, .int .i64 0], .bool false]) (by simp [results, Tryd.results6, go_sem, cell_set, c0, c1]) rfl ⟨_, _, _, rfl, K', ?_⟩
      repeat (first | exact b3 | refine Below.drew ?_ | refine Below.setCell ?_ (by simp; try omega) _)
    by_cases hle : n1 ≤ n2
    · have K' : IsItv s.data.toList n1 n2 true := by simpa [hle] using K
      clear K
      go_wp2_with fail
      refine bodyPost_ret (v := .tuple #[.agg #[.int .i64 n1, .int .i64 n2], .bool true]) (by simp [results, Tryd.results6, go_sem, cell_set, c0, c1]) rfl ⟨_, _, _, rfl, K', ?_⟩
      repeat (first | exact b3 | refine Below.drew ?_ | refine Below.setCell ?_ (by simp; try omega) _)
    · have K' : IsItv s.data.toList 0 0 false := by simpa [hle] using K
      clear K
      go_wp2_with fail
      refine bodyPost_ret (v := .tuple #[.agg #[.int .i64 0, .int .i64 0], .bool false]) (by simp [results, Tryd.results6, go_sem, cell_set, c0, c1]) rfl ⟨_, _, _, rfl, K', ?_⟩
      repeat (first | exact b3 | refine Below.drew ?_ | refine Below.setCell ?_ (by simp; try omega) _)
  · have hc : Lib.cut s.data.toList [46, 46] = (s.data.toList, [], false) := by
      unfold Lib.cut
      rw [if_neg hi]
    have K : IsItv s.data.toList 0 0 false := .inr ⟨rfl, rfl, rfl, fun x y _ e => hi (by
      have k := index_dots (x := Lib.itoa x) (y := Lib.itoa y) (itoa_nodot x)
      unfold itvTx at e
      rw [e] at k
      rw [k]
      omega)⟩
    clear hi
    go_enter Tryd.func6, Tryd.ntmps6
    go_wp2_with fail
    refine (Tryd.strings_Cut s ⟨#[46, 46]⟩ m _ (by omega) ((b0.cell (p := ⟨0, 0, none⟩) hmlt).trans hm)).mono ?_
    rintro e w1 ⟨rfl, n, rfl⟩
    rw [show (⟨#[46, 46]⟩ : ByteArray).data.toList = [46, 46] from rfl, hc]
    clear hc
    have H1 := HeldL.next ((below_dn (Below.refl _ _) n)) H0
    have c0 := H1.cell List.mem_cons_self (i := 0) rfl
    have c1 := H1.cell List.mem_cons_self (i := 1) rfl
    go_wp2_with fail
    refine bodyPost_ret (v := .tuple #[.agg #[.int .i64 0, .int .i64 0], .bool false]) (by simp [results, Tryd.results6, go_sem, cell_set, c0, c1]) rfl ⟨_, _, _, rfl, K, ?_⟩
    repeat (first | exact H1.below | refine Below.drew ?_ | refine Below.setCell ?_ (by simp; try omega) _)
end Go.Proofs.YtceanngbcolbaaaDoor
