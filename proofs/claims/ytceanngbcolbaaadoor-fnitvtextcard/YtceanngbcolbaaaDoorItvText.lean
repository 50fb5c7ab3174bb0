/- What ItvText answers, the model's and the program's: both ends' numerals and two dots between, else the empty text. Condition of the second: the table of powers of ten of strconv holds what its initialiser lays. -/
import Derived.Test.YtceanngbcolbaaaDoorItvI
import Derived.Test.YtceanngbcolbaaaDoorText
import Derived.WalkKit
import Derived.ProofKit
import Derived.OpenShut
import Derived.Below
import Derived.WalkLawsBesides
import Derived.Deep.RegionHeld3
import Derived.Deep.DeepCutAuto
namespace Go.Proofs.YtceanngbcolbaaaDoor
open Go.ChangeShapes Go.WideShapes Go.ChangeAt Go.RowKit

def itvText (a b : Int) : List UInt8 := if itvOk a b then Lib.itoa a ++ [46, 46] ++ Lib.itoa b else []
theorem itoa_short {n : Int} (h : okB n = true) : (Lib.itoa n).length ≤ 100 := by
  have := Lib.itoa_length_le n (by have := ok_lo h; omega) (by have := ok_hi h; omega)
  omega
theorem cat3 (x y : List UInt8) : ((⟨x.toArray⟩ : ByteArray) ++ ⟨#[46, 46]⟩) ++ ⟨y.toArray⟩ = ⟨(x ++ [46, 46] ++ y).toArray⟩ := by
  rw [ByteArray.mk_append_mk, ByteArray.mk_append_mk]

theorem textI_eq (n : Int) (w : World) (h : okB n = true) (htab : Lib.TabIs Tryd.prog w "internal/strconv.uint64pow10" .u64 Lib.pow10Tab) :
    Calls Tryd.prog 20 #[.int .i64 n] w fun e w' => e = .returned (.string ⟨(Lib.itoa n).toArray⟩) ∧ Below w.heap.size w w' := by
  have k := textI n w htab
  rw [textOf_ok h] at k
  exact k
def S1 (w : World) (a b : Int) (W : World) : Prop := W.cell? ⟨w.heap.size, 0, none⟩ = some (.int .i64 a) ∧ W.cell? ⟨w.heap.size, 1, none⟩ = some (.int .i64 b) ∧ HeldL w [(w.heap.size, [.int .i64 a, .int .i64 b])] W
theorem S1.of {w : World} {a b : Int} {W : World} (h : HeldL w [(w.heap.size, [.int .i64 a, .int .i64 b])] W) : S1 w a b W := ⟨h.cell List.mem_cons_self (i := 0) rfl, h.cell List.mem_cons_self (i := 1) rfl, h⟩
theorem S1.held {w : World} {a b : Int} {W : World} (h : S1 w a b W) : HeldL w [(w.heap.size, [.int .i64 a, .int .i64 b])] W := h.2.2

set_option maxHeartbeats 2000000 in
theorem itvTextS (a b : Int) (w : World) :
    Calls Tryd.prog 9 #[.agg #[.int .i64 a, .int .i64 b]] w fun e w' => e = .returned (.string ⟨(itvText a b).toArray⟩) ∧ Below w.heap.size w w' := by
  cases hab : itvOk a b
  · have k : itvText a b = [] := by simp [itvText, hab]
    rw [k]
    go_enter Tryd.func9, Tryd.ntmps9
    go_wp2_with fail
    refine (itvOkS _ _ _).mono ?_
    rintro e w1 ⟨rfl, hb⟩
    have H1 := HeldL.next hb (HeldL.new (HeldL.nil w))
    go_wp2_with fail
    go_ret
    exact ⟨rfl, H1.below⟩
  · obtain ⟨ha, hb0, _⟩ := itvOk_of hab
    have k : itvText a b = Lib.itoa a ++ [46, 46] ++ Lib.itoa b := by simp [itvText, hab]
    have l1 : ¬ 9223372036854775807 < (Lib.itoa a).length + 2 := by have := itoa_short ha; omega
    have l2 : ¬ 9223372036854775807 < (Lib.itoa a).length + 2 + (Lib.itoa b).length := by have := itoa_short ha; have := itoa_short hb0; omega
    rw [k]
    clear k
    go_enter Tryd.func9, Tryd.ntmps9
    go_wp2_with fail
    refine (itvOkS _ _ _).mono ?_
    rintro e w1 ⟨rfl, hb⟩
    have H1 := HeldL.next hb (HeldL.new (HeldL.nil w))
    clear hb
    go_wp2_with fail
    go_region_held3 (fun W => W.cell? ⟨w.heap.size, 0, none⟩ = some (.int .i64 a) ∧ W.cell? ⟨w.heap.size, 1, none⟩ = some (.int .i64 b) ∧ HeldL w [(w.heap.size, [.int .i64 a, .int .i64 b])] W) (first | exact S1.of H1.drew | exact S1.of hH) (first | (go_at_call 21; refine (digitsS _ _ (by first | exact ok_lo ha | exact ok_lo hb0) (by first | exact ok_hi ha | exact ok_hi hb0)).mono ?_; rintro e w' ⟨rfl, hb⟩; have hH := HeldL.next hb (S1.held (by assumption))))
    all_goals (go_wp2_with fail)
    all_goals go_ret
    all_goals (refine ⟨ret_str (cat3 _ _), hH.below⟩)

set_option maxHeartbeats 2000000 in
theorem itvTextI (a b : Int) (w : World) (htab : Lib.TabIs Tryd.prog w "internal/strconv.uint64pow10" .u64 Lib.pow10Tab) :
    Calls Tryd.prog 8 #[.agg #[.int .i64 a, .int .i64 b]] w fun e w' => e = .returned (.string ⟨(itvText a b).toArray⟩) ∧ Below w.heap.size w w' := by
  cases hab : itvOk a b
  · have k : itvText a b = [] := by simp [itvText, hab]
    rw [k]
    go_enter Tryd.func8, Tryd.ntmps8
    go_wp2_with fail
    refine (itvOkI _ _ _).mono ?_
    rintro e w1 ⟨rfl, hb⟩
    have H1 := HeldL.next hb (HeldL.new (HeldL.nil w))
    go_wp2_with fail
    go_ret
    exact ⟨rfl, H1.below⟩
  · obtain ⟨ha, hb0, _⟩ := itvOk_of hab
    have k : itvText a b = Lib.itoa a ++ [46, 46] ++ Lib.itoa b := by simp [itvText, hab]
    have l1 : ¬ 9223372036854775807 < (Lib.itoa a).length + 2 := by have := itoa_short ha; omega
    have l2 : ¬ 9223372036854775807 < (Lib.itoa a).length + 2 + (Lib.itoa b).length := by have := itoa_short ha; have := itoa_short hb0; omega
    rw [k]
    clear k
    go_enter Tryd.func8, Tryd.ntmps8
    go_wp2_with fail
    refine (itvOkI _ _ _).mono ?_
    rintro e w1 ⟨rfl, hb⟩
    have H1 := HeldL.next hb (HeldL.new (HeldL.nil w))
    clear hb
    go_wp2_with fail
    go_region_held3 (fun W => W.cell? ⟨w.heap.size, 0, none⟩ = some (.int .i64 a) ∧ W.cell? ⟨w.heap.size, 1, none⟩ = some (.int .i64 b) ∧ HeldL w [(w.heap.size, [.int .i64 a, .int .i64 b])] W) (first | exact S1.of H1.drew | exact S1.of hH) (first | (go_at_call 20; refine (textI_eq _ _ (by first | exact ha | exact hb0) (tab_below htab (HeldL.below (S1.held (by assumption))))).mono ?_; rintro e w' ⟨rfl, hb⟩; have hH := HeldL.next hb (S1.held (by assumption))))
    all_goals (go_wp2_with fail)
    all_goals go_ret
    all_goals (refine ⟨ret_str (cat3 _ _), hH.below⟩)
end Go.Proofs.YtceanngbcolbaaaDoor
