/- Two arrivals taken bounds by bounds, by a function that is handed in; the join of two arrivals. -/
import Derived.Test.YtiehokibfdaleaaArrSt
namespace Go.Proofs.Ytiehokibfdaleaa
open Go.ChangeShapes Go.WideShapes Go.ChangeAt Go.RowKit
set_option linter.unusedVariables false

abbrev arrL (on : Bool) (l h : Nat → Int) : List Value := [Value.bool on, .int .i64 (l 0), .int .i64 (h 0), .int .i64 (l 1), .int .i64 (h 1), .int .i64 (l 2), .int .i64 (h 2), .int .i64 (l 3), .int .i64 (h 3), .int .i64 (l 4), .int .i64 (h 4)]
theorem arr_lo (on : Bool) (l h : Nat → Int) {k : Nat} (hk : k < 5) : (arrL on l h)[1 + k * 2]? = some (.int .i64 (l k)) := cellAt_lo on l h hk
theorem arr_hi (on : Bool) (l h : Nat → Int) {k : Nat} (hk : k < 5) : (arrL on l h)[1 + k * 2 + 1]? = some (.int .i64 (h k)) := cellAt_hi on l h hk
def mixF (k : Nat) (f l : Nat → Int) : Nat → Int := fun j => if j < k then f j else l j
theorem mixF_k (k : Nat) (f l : Nat → Int) : mixF k f l k = l k := if_neg (Nat.lt_irrefl k)
theorem mix_put {k : Nat} {F G l h : Nat → Int} (hk : k < 5) : ((arrL true (mixF k F l) (mixF k G h)).set (1 + k * 2) (.int .i64 (F k))).set (1 + k * 2 + 1) (.int .i64 (G k)) = arrL true (mixF (k + 1) F l) (mixF (k + 1) G h) := by
  rcases (show k = 0 ∨ k = 1 ∨ k = 2 ∨ k = 3 ∨ k = 4 by omega) with rfl | rfl | rfl | rfl | rfl <;> simp [arrL, mixF]
/-- Operation b stands behind operation a. -/
def Imp (a b : Nat) (L : Nat → Bool) : Prop := L b = true → L a = true
theorem Imp.go {a b : Nat} {L : Nat → Bool} (h : Imp a b L) {i : Nat} (hi : i = b → L a = true) : Imp a b (upd L i true) := by
  intro e
  by_cases ea : a = i
  · subst ea; exact upd_same _ _ _
  · rw [upd_other _ _ ea]
    by_cases eb : b = i
    · exact hi eb.symm
    · rw [upd_other _ _ eb] at e; exact h e
theorem Imp.no {a b : Nat} {L : Nat → Bool} (h : Imp a b L) (ha : L a = false) : L b = false := by
  cases e : L b
  · rfl
  · rw [h e] at ha; cases ha
theorem Once.next {j : Nat} {w : World} {L0 L1 : List (Nat × List Value)} {L : Nat → Bool} {W W' : World} (h : Once j w L0 L1 L W) (hb : Below W.heap.size W W') : Once j w L0 L1 L W' := ⟨fun e => (h.1 e).next hb, fun e => (h.2 e).next hb⟩
def BesS (w : World) (L0 L1 : List (Nat × List Value)) (L : Nat → Bool) (W : World) : Prop := Imp 10 13 L ∧ Imp 5 10 L ∧ Once 13 w L0 L1 L W
set_option maxRecDepth 10000 in
set_option maxHeartbeats 8000000 in
theorem beside_f (on' : Bool) (l h l' h' : Nat → Int) (fv : Value) (w : World) :
    Calls Try.prog 72 #[.agg #[.bool false, .int .i64 (l 0), .int .i64 (h 0), .int .i64 (l 1), .int .i64 (h 1), .int .i64 (l 2), .int .i64 (h 2), .int .i64 (l 3), .int .i64 (h 3), .int .i64 (l 4), .int .i64 (h 4)], .agg #[.bool on', .int .i64 (l' 0), .int .i64 (h' 0), .int .i64 (l' 1), .int .i64 (h' 1), .int .i64 (l' 2), .int .i64 (h' 2), .int .i64 (l' 3), .int .i64 (h' 3), .int .i64 (l' 4), .int .i64 (h' 4)], fv] w fun e w' => e = .returned (.agg #[.bool on', .int .i64 (l' 0), .int .i64 (h' 0), .int .i64 (l' 1), .int .i64 (h' 1), .int .i64 (l' 2), .int .i64 (h' 2), .int .i64 (l' 3), .int .i64 (h' 3), .int .i64 (l' 4), .int .i64 (h' 4)]) ∧ Below w.heap.size w w' := by
  go_enter Try.func72, Try.ntmps72
  go_wp2_with fail
  refine bodyPost_ret (v := .agg #[.bool on', .int .i64 (l' 0), .int .i64 (h' 0), .int .i64 (l' 1), .int .i64 (h' 1), .int .i64 (l' 2), .int .i64 (h' 2), .int .i64 (l' 3), .int .i64 (h' 3), .int .i64 (l' 4), .int .i64 (h' 4)]) (by simp [results, Try.results72, go_sem]) rfl ⟨rfl, ?_⟩
  exact Below.alloc (Below.alloc (Below.alloc (Below.refl _ _) (Nat.le_refl _) _) (by simp) _) (by simp; omega) _
set_option maxRecDepth 10000 in
set_option maxHeartbeats 8000000 in
theorem beside_tf (l h l' h' : Nat → Int) (fv : Value) (w : World) :
    Calls Try.prog 72 #[.agg #[.bool true, .int .i64 (l 0), .int .i64 (h 0), .int .i64 (l 1), .int .i64 (h 1), .int .i64 (l 2), .int .i64 (h 2), .int .i64 (l 3), .int .i64 (h 3), .int .i64 (l 4), .int .i64 (h 4)], .agg #[.bool false, .int .i64 (l' 0), .int .i64 (h' 0), .int .i64 (l' 1), .int .i64 (h' 1), .int .i64 (l' 2), .int .i64 (h' 2), .int .i64 (l' 3), .int .i64 (h' 3), .int .i64 (l' 4), .int .i64 (h' 4)], fv] w fun e w' => e = .returned (.agg #[.bool true, .int .i64 (l 0), .int .i64 (h 0), .int .i64 (l 1), .int .i64 (h 1), .int .i64 (l 2), .int .i64 (h 2), .int .i64 (l 3), .int .i64 (h 3), .int .i64 (l 4), .int .i64 (h 4)]) ∧ Below w.heap.size w w' := by
  go_enter Try.func72, Try.ntmps72
  go_wp2_with fail
  refine bodyPost_ret (v := .agg #[.bool true, .int .i64 (l 0), .int .i64 (h 0), .int .i64 (l 1), .int .i64 (h 1), .int .i64 (l 2), .int .i64 (h 2), .int .i64 (l 3), .int .i64 (h 3), .int .i64 (l 4), .int .i64 (h 4)]) (by simp [results, Try.results72, go_sem]) rfl ⟨rfl, ?_⟩
  exact Below.alloc (Below.alloc (Below.alloc (Below.refl _ _) (Nat.le_refl _) _) (by simp) _) (by simp; omega) _
set_option maxRecDepth 10000 in
set_option maxHeartbeats 16000000 in
theorem beside_join (l h l' h' : Nat → Int) (w : World) :
    Calls Try.prog 72 #[.agg #[.bool true, .int .i64 (l 0), .int .i64 (h 0), .int .i64 (l 1), .int .i64 (h 1), .int .i64 (l 2), .int .i64 (h 2), .int .i64 (l 3), .int .i64 (h 3), .int .i64 (l 4), .int .i64 (h 4)], .agg #[.bool true, .int .i64 (l' 0), .int .i64 (h' 0), .int .i64 (l' 1), .int .i64 (h' 1), .int .i64 (l' 2), .int .i64 (h' 2), .int .i64 (l' 3), .int .i64 (h' 3), .int .i64 (l' 4), .int .i64 (h' 4)], .func (.func 73) #[] #[]] w fun e w' => e = .returned (.agg #[.bool true, .int .i64 ((fun k => joinLo (l k) (h k) (l' k) (h' k)) 0), .int .i64 ((fun k => joinHi (l k) (h k) (l' k) (h' k)) 0), .int .i64 ((fun k => joinLo (l k) (h k) (l' k) (h' k)) 1), .int .i64 ((fun k => joinHi (l k) (h k) (l' k) (h' k)) 1), .int .i64 ((fun k => joinLo (l k) (h k) (l' k) (h' k)) 2), .int .i64 ((fun k => joinHi (l k) (h k) (l' k) (h' k)) 2), .int .i64 ((fun k => joinLo (l k) (h k) (l' k) (h' k)) 3), .int .i64 ((fun k => joinHi (l k) (h k) (l' k) (h' k)) 3), .int .i64 ((fun k => joinLo (l k) (h k) (l' k) (h' k)) 4), .int .i64 ((fun k => joinHi (l k) (h k) (l' k) (h' k)) 4)]) ∧ Below w.heap.size w w' := by
  have hf := fun a b c d (w : World) => joinI a b c d w
  obtain ⟨F, hF⟩ : ∃ F : Nat → Int, (fun k => joinLo (l k) (h k) (l' k) (h' k)) = F := ⟨_, rfl⟩
  obtain ⟨G, hG⟩ : ∃ G : Nat → Int, (fun k => joinHi (l k) (h k) (l' k) (h' k)) = G := ⟨_, rfl⟩
  have hFk : ∀ k, joinLo (l k) (h k) (l' k) (h' k) = F k := fun k => congrFun hF k
  have hGk : ∀ k, joinHi (l k) (h k) (l' k) (h' k) = G k := fun k => congrFun hG k
  rw [hF, hG]
  replace hf : ∀ k (w : World), Calls Try.prog 73 #[.agg #[.int .i64 (l k), .int .i64 (h k)], .agg #[.int .i64 (l' k), .int .i64 (h' k)]] w fun e w' => e = .returned (.agg #[.int .i64 (F k), .int .i64 (G k)]) ∧ Below w.heap.size w w' := fun k w => by
    have := hf (l k) (h k) (l' k) (h' k) w
    rwa [hFk, hGk] at this
  clear hFk hGk hF hG
  have H : HeldL w ((w.heap.size, arrL true (mixF 0 F l) (mixF 0 G h)) :: [(w.heap.size + 1 + 1, [Value.bool false, .int .i64 0, .int .i64 0, .int .i64 0, .int .i64 0, .int .i64 0, .int .i64 0, .int .i64 0, .int .i64 0, .int .i64 0, .int .i64 0]), (w.heap.size + 1, arrL true l' h')]) (((w.alloc (.cells #[.bool true, .int .i64 (l 0), .int .i64 (h 0), .int .i64 (l 1), .int .i64 (h 1), .int .i64 (l 2), .int .i64 (h 2), .int .i64 (l 3), .int .i64 (h 3), .int .i64 (l 4), .int .i64 (h 4)] 49)).alloc (.cells #[.bool true, .int .i64 (l' 0), .int .i64 (h' 0), .int .i64 (l' 1), .int .i64 (h' 1), .int .i64 (l' 2), .int .i64 (h' 2), .int .i64 (l' 3), .int .i64 (h' 3), .int .i64 (l' 4), .int .i64 (h' 4)] 49)).alloc (.cells #[.bool false, .int .i64 0, .int .i64 0, .int .i64 0, .int .i64 0, .int .i64 0, .int .i64 0, .int .i64 0, .int .i64 0, .int .i64 0, .int .i64 0] 49)) := by
    have e1 : w.heap.size + 1 = (w.alloc (.cells #[.bool true, .int .i64 (l 0), .int .i64 (h 0), .int .i64 (l 1), .int .i64 (h 1), .int .i64 (l 2), .int .i64 (h 2), .int .i64 (l 3), .int .i64 (h 3), .int .i64 (l 4), .int .i64 (h 4)] 49)).heap.size := by simp
    have e2 : w.heap.size + 1 + 1 = ((w.alloc (.cells #[.bool true, .int .i64 (l 0), .int .i64 (h 0), .int .i64 (l 1), .int .i64 (h 1), .int .i64 (l 2), .int .i64 (h 2), .int .i64 (l 3), .int .i64 (h 3), .int .i64 (l 4), .int .i64 (h 4)] 49)).alloc (.cells #[.bool true, .int .i64 (l' 0), .int .i64 (h' 0), .int .i64 (l' 1), .int .i64 (h' 1), .int .i64 (l' 2), .int .i64 (h' 2), .int .i64 (l' 3), .int .i64 (h' 3), .int .i64 (l' 4), .int .i64 (h' 4)] 49)).heap.size := by simp
    rw [e2, e1]
    refine HeldL.sub ?_ (HeldL.newL (vs := [Value.bool false, .int .i64 0, .int .i64 0, .int .i64 0, .int .i64 0, .int .i64 0, .int .i64 0, .int .i64 0, .int .i64 0, .int .i64 0, .int .i64 0]) (HeldL.newL (vs := [Value.bool true, .int .i64 (l' 0), .int .i64 (h' 0), .int .i64 (l' 1), .int .i64 (h' 1), .int .i64 (l' 2), .int .i64 (h' 2), .int .i64 (l' 3), .int .i64 (h' 3), .int .i64 (l' 4), .int .i64 (h' 4)]) (HeldL.newL (vs := [Value.bool true, .int .i64 (l 0), .int .i64 (h 0), .int .i64 (l 1), .int .i64 (h 1), .int .i64 (l 2), .int .i64 (h 2), .int .i64 (l 3), .int .i64 (h 3), .int .i64 (l 4), .int .i64 (h 4)]) (HeldL.nil w))))
    intro e he
    simp only [List.mem_cons, List.not_mem_nil, or_false] at he ⊢
    rcases he with rfl | rfl | rfl <;> simp [arrL, mixF]
  obtain ⟨Lr, hLr⟩ : ∃ L, L = [(w.heap.size + 1 + 1, [Value.bool false, .int .i64 0, .int .i64 0, .int .i64 0, .int .i64 0, .int .i64 0, .int .i64 0, .int .i64 0, .int .i64 0, .int .i64 0, .int .i64 0]), (w.heap.size + 1, arrL true l' h')] := ⟨_, rfl⟩
  have ne0 : ∀ e ∈ Lr, e.1 ≠ w.heap.size := by rw [hLr]; intro e he; simp at he; rcases he with rfl | rfl <;> dsimp only <;> omega
  have mB : (w.heap.size + 1, arrL true l' h') ∈ Lr := by rw [hLr]; simp
  have mZ : (w.heap.size + 1 + 1, [Value.bool false, .int .i64 0, .int .i64 0, .int .i64 0, .int .i64 0, .int .i64 0, .int .i64 0, .int .i64 0, .int .i64 0, .int .i64 0, .int .i64 0]) ∈ Lr := by rw [hLr]; simp
  rw [← hLr] at H
  clear hLr
  obtain ⟨fv, hfv⟩ : ∃ v, v = Value.func (.func 73) #[] #[] := ⟨_, rfl⟩
  rw [← hfv]
  have hfvS : Hid (fv = Value.func (.func 73) #[] #[]) := hfv
  clear hfv
  go_enter Try.func72, Try.ntmps72
  go_wp2_with fail
  go_loopw [16] (fun i wr => ∃ k : Nat, k ≤ 5 ∧ i = .int .i64 k ∧ HeldL w ((w.heap.size, arrL true (mixF k F l) (mixF k G h)) :: Lr) wr) (fun i _ => 5 - (intOf i).toNat)
  case atStart => exact ⟨0, Nat.zero_le _, rfl, H⟩
  case round =>
    clear H
    obtain ⟨k, hk, rfl, H⟩ := hrel
    by_cases hlt : k < 5
    · have t1 : ((k : Int)).toNat = k := by omega
      have t2 : (0 : Int) ≤ (k : Int) := by omega
      have t3 : (k : Int) < 5 := by omega
      have hS0 : BesS w ((w.heap.size, arrL true (mixF k F l) (mixF k G h)) :: Lr) ((w.heap.size, arrL true (mixF (k + 1) F l) (mixF (k + 1) G h)) :: Lr) (fun _ => false) wr.drew := ⟨(fun e => by cases e), (fun e => by cases e), Once.start H.drew⟩
      clear H
      go_wp2_with fail
      refine region_inv3 [(0, 19), (1, 20), (2, 21), (3, 22), (4, 23), (5, 24), (6, 25), (7, 26), (8, 27), (9, 28), (10, 29), (11, 30), (12, 31)]
        (fun j v _ => match j with
          | 0 => Is (.int .i64 k) v
          | 1 => Is (fv) v
          | 2 => Is (.int .i64 k) v
          | 3 => Is (.pointer (some ⟨w.heap.size, 1, none⟩)) v
          | 4 => Is (.pointer (some ⟨w.heap.size, 1 + k * 2, none⟩)) v
          | 5 => Is (.agg #[.int .i64 (l k), .int .i64 (h k)]) v
          | 6 => Is (.int .i64 k) v
          | 7 => Is (.pointer (some ⟨w.heap.size + 1, 1, none⟩)) v
          | 8 => Is (.pointer (some ⟨w.heap.size + 1, 1 + k * 2, none⟩)) v
          | 9 => Is (.agg #[.int .i64 (l' k), .int .i64 (h' k)]) v
          | 10 => Is (.agg #[.int .i64 (F k), .int .i64 (G k)]) v
          | 11 => Is (.pointer (some ⟨w.heap.size, 1, none⟩)) v
          | 12 => Is (.pointer (some ⟨w.heap.size, 1 + k * 2, none⟩)) v
          | _ => True)
        (fun L W => BesS w ((w.heap.size, arrL true (mixF k F l) (mixF k G h)) :: Lr) ((w.heap.size, arrL true (mixF (k + 1) F l) (mixF (k + 1) G h)) :: Lr) L W) TT
        (by kernel_rfl) (by kernel_rfl) (by kernel_rfl) (by kernel_rfl) (by kernel_rfl) rfl hS0 (fun i j v W W' _ h _ => h) ?_ ?_
      · intro i L vals W hi' hφ hS hL hd
        have hi2 : i < 14 := hi'
        clear hi' hS0
        rcases (show i = 0 ∨ i = 1 ∨ i = 2 ∨ i = 3 ∨ i = 4 ∨ i = 5 ∨ i = 6 ∨ i = 7 ∨ i = 8 ∨ i = 9 ∨ i = 10 ∨ i = 11 ∨ i = 12 ∨ i = 13 by omega) with rfl | rfl | rfl | rfl | rfl | rfl | rfl | rfl | rfl | rfl | rfl | rfl | rfl | rfl
        · refine wpAt_of rfl rfl ?_
          simp only [frOf, Act.put]
          go_wp2_with fail
          first | exact ⟨trivial, rfl, trivial, ⟨hS.1.go (fun e => absurd e (by decide)), hS.2.1.go (fun e => absurd e (by decide)), hS.2.2.keep (by decide)⟩⟩ | exact ⟨rfl, trivial, ⟨hS.1.go (fun e => absurd e (by decide)), hS.2.1.go (fun e => absurd e (by decide)), hS.2.2.keep (by decide)⟩⟩
        · refine wpAt_of rfl rfl ?_
          simp only [frOf, Act.put]
          go_wp2_with fail
          first | exact ⟨trivial, rfl, trivial, ⟨hS.1.go (fun e => absurd e (by decide)), hS.2.1.go (fun e => absurd e (by decide)), hS.2.2.keep (by decide)⟩⟩ | exact ⟨rfl, trivial, ⟨hS.1.go (fun e => absurd e (by decide)), hS.2.1.go (fun e => absurd e (by decide)), hS.2.2.keep (by decide)⟩⟩
        · refine wpAt_of rfl rfl ?_
          simp only [frOf, Act.put]
          go_wp2_with fail
          first | exact ⟨trivial, rfl, trivial, ⟨hS.1.go (fun e => absurd e (by decide)), hS.2.1.go (fun e => absurd e (by decide)), hS.2.2.keep (by decide)⟩⟩ | exact ⟨rfl, trivial, ⟨hS.1.go (fun e => absurd e (by decide)), hS.2.1.go (fun e => absurd e (by decide)), hS.2.2.keep (by decide)⟩⟩
        · refine wpAt_of rfl rfl ?_
          simp only [frOf, Act.put]
          go_wp2_with fail
          first | exact ⟨trivial, rfl, trivial, ⟨hS.1.go (fun e => absurd e (by decide)), hS.2.1.go (fun e => absurd e (by decide)), hS.2.2.keep (by decide)⟩⟩ | exact ⟨rfl, trivial, ⟨hS.1.go (fun e => absurd e (by decide)), hS.2.1.go (fun e => absurd e (by decide)), hS.2.2.keep (by decide)⟩⟩
        · have k2 : vals 2 = .int .i64 k := hφ 2 (hd 2 (by decide))
          have k3 : vals 3 = .pointer (some ⟨w.heap.size, 1, none⟩) := hφ 3 (hd 3 (by decide))
          refine wpAt_of rfl rfl ?_
          simp only [frOf, Act.put]
          go_wp2_with fail
          first | exact ⟨trivial, rfl, trivial, ⟨hS.1.go (fun e => absurd e (by decide)), hS.2.1.go (fun e => absurd e (by decide)), hS.2.2.keep (by decide)⟩⟩ | exact ⟨rfl, trivial, ⟨hS.1.go (fun e => absurd e (by decide)), hS.2.1.go (fun e => absurd e (by decide)), hS.2.2.keep (by decide)⟩⟩
        · have k4 : vals 4 = .pointer (some ⟨w.heap.size, 1 + k * 2, none⟩) := hφ 4 (hd 4 (by decide))
          have h13 : L 13 = false := hS.1.no (hS.2.1.no hL)
          have hH := hS.2.2.1 h13
          have d0 := hH.cell List.mem_cons_self (i := 1 + k * 2) (arr_lo true (mixF k F l) (mixF k G h) hlt)
          have d1 := hH.cell List.mem_cons_self (i := 1 + k * 2 + 1) (arr_hi true (mixF k F l) (mixF k G h) hlt)
          rw [mixF_k] at d0 d1
          dsimp only at d0 d1
          refine wpAt_of rfl rfl ?_
          simp only [frOf, Act.put]
          go_wp2_with fail
          first | exact ⟨trivial, rfl, trivial, ⟨hS.1.go (fun e => absurd e (by decide)), hS.2.1.go (fun e => absurd e (by decide)), hS.2.2.keep (by decide)⟩⟩ | exact ⟨rfl, trivial, ⟨hS.1.go (fun e => absurd e (by decide)), hS.2.1.go (fun e => absurd e (by decide)), hS.2.2.keep (by decide)⟩⟩
        · refine wpAt_of rfl rfl ?_
          simp only [frOf, Act.put]
          go_wp2_with fail
          first | exact ⟨trivial, rfl, trivial, ⟨hS.1.go (fun e => absurd e (by decide)), hS.2.1.go (fun e => absurd e (by decide)), hS.2.2.keep (by decide)⟩⟩ | exact ⟨rfl, trivial, ⟨hS.1.go (fun e => absurd e (by decide)), hS.2.1.go (fun e => absurd e (by decide)), hS.2.2.keep (by decide)⟩⟩
        · refine wpAt_of rfl rfl ?_
          simp only [frOf, Act.put]
          go_wp2_with fail
          first | exact ⟨trivial, rfl, trivial, ⟨hS.1.go (fun e => absurd e (by decide)), hS.2.1.go (fun e => absurd e (by decide)), hS.2.2.keep (by decide)⟩⟩ | exact ⟨rfl, trivial, ⟨hS.1.go (fun e => absurd e (by decide)), hS.2.1.go (fun e => absurd e (by decide)), hS.2.2.keep (by decide)⟩⟩
        · have k6 : vals 6 = .int .i64 k := hφ 6 (hd 6 (by decide))
          have k7 : vals 7 = .pointer (some ⟨w.heap.size + 1, 1, none⟩) := hφ 7 (hd 7 (by decide))
          refine wpAt_of rfl rfl ?_
          simp only [frOf, Act.put]
          go_wp2_with fail
          first | exact ⟨trivial, rfl, trivial, ⟨hS.1.go (fun e => absurd e (by decide)), hS.2.1.go (fun e => absurd e (by decide)), hS.2.2.keep (by decide)⟩⟩ | exact ⟨rfl, trivial, ⟨hS.1.go (fun e => absurd e (by decide)), hS.2.1.go (fun e => absurd e (by decide)), hS.2.2.keep (by decide)⟩⟩
        · have k8 : vals 8 = .pointer (some ⟨w.heap.size + 1, 1 + k * 2, none⟩) := hφ 8 (hd 8 (by decide))
          have hc : ∀ j v, (arrL true l' h')[j]? = some v → W.cell? ⟨w.heap.size + 1, j, none⟩ = some v := fun j v hj => by cases h13 : L 13 <;> first | exact (hS.2.2.1 h13).cell (List.mem_cons_of_mem _ mB) hj | exact (hS.2.2.2 h13).cell (List.mem_cons_of_mem _ mB) hj
          have d0 := hc _ _ (arr_lo true l' h' hlt)
          have d1 := hc _ _ (arr_hi true l' h' hlt)
          clear hc
          refine wpAt_of rfl rfl ?_
          simp only [frOf, Act.put]
          go_wp2_with fail
          first | exact ⟨trivial, rfl, trivial, ⟨hS.1.go (fun e => absurd e (by decide)), hS.2.1.go (fun e => absurd e (by decide)), hS.2.2.keep (by decide)⟩⟩ | exact ⟨rfl, trivial, ⟨hS.1.go (fun e => absurd e (by decide)), hS.2.1.go (fun e => absurd e (by decide)), hS.2.2.keep (by decide)⟩⟩
        · have k1 : vals 1 = fv := hφ 1 (hd 1 (by decide))
          have k5 : vals 5 = .agg #[.int .i64 (l k), .int .i64 (h k)] := hφ 5 (hd 5 (by decide))
          have k9 : vals 9 = .agg #[.int .i64 (l' k), .int .i64 (h' k)] := hφ 9 (hd 9 (by decide))
          rw [hfvS.out] at k1
          refine wpAt_of rfl rfl ?_
          simp only [frOf, Act.put]
          go_wp2_with fail
          refine (hf _ _).mono ?_
          rintro e W' ⟨rfl, hb⟩
          go_wp2_with fail
          first | exact ⟨trivial, rfl, trivial, ⟨hS.1.go (fun e => absurd e (by decide)), hS.2.1.go (fun _ => hd 5 (by decide)), (hS.2.2.next hb).keep (by decide)⟩⟩ | exact ⟨rfl, trivial, ⟨hS.1.go (fun e => absurd e (by decide)), hS.2.1.go (fun _ => hd 5 (by decide)), (hS.2.2.next hb).keep (by decide)⟩⟩
        · refine wpAt_of rfl rfl ?_
          simp only [frOf, Act.put]
          go_wp2_with fail
          first | exact ⟨trivial, rfl, trivial, ⟨hS.1.go (fun e => absurd e (by decide)), hS.2.1.go (fun e => absurd e (by decide)), hS.2.2.keep (by decide)⟩⟩ | exact ⟨rfl, trivial, ⟨hS.1.go (fun e => absurd e (by decide)), hS.2.1.go (fun e => absurd e (by decide)), hS.2.2.keep (by decide)⟩⟩
        · have k0 : vals 0 = .int .i64 k := hφ 0 (hd 0 (by decide))
          have k11 : vals 11 = .pointer (some ⟨w.heap.size, 1, none⟩) := hφ 11 (hd 11 (by decide))
          refine wpAt_of rfl rfl ?_
          simp only [frOf, Act.put]
          go_wp2_with fail
          first | exact ⟨trivial, rfl, trivial, ⟨hS.1.go (fun e => absurd e (by decide)), hS.2.1.go (fun e => absurd e (by decide)), hS.2.2.keep (by decide)⟩⟩ | exact ⟨rfl, trivial, ⟨hS.1.go (fun e => absurd e (by decide)), hS.2.1.go (fun e => absurd e (by decide)), hS.2.2.keep (by decide)⟩⟩
        · have k10 : vals 10 = .agg #[.int .i64 (F k), .int .i64 (G k)] := hφ 10 (hd 10 (by decide))
          have k12 : vals 12 = .pointer (some ⟨w.heap.size, 1 + k * 2, none⟩) := hφ 12 (hd 12 (by decide))
          have hH := hS.2.2.1 hL
          have q0 := hH.cell List.mem_cons_self (i := 1 + k * 2) (arr_lo true (mixF k F l) (mixF k G h) hlt)
          have q1 := hH.cell List.mem_cons_self (i := 1 + k * 2 + 1) (arr_hi true (mixF k F l) (mixF k G h) hlt)
          have fr := hH.free _ List.mem_cons_self
          dsimp only at q0 q1 fr
          have hA := HeldL.putI (i := 1 + k * 2 + 1) (x := .int .i64 (G k)) (by omega) ne0 (HeldL.putI (i := 1 + k * 2) (x := .int .i64 (F k)) (by omega) ne0 hH (by simp [arrL]; omega)) (by simp [arrL]; omega)
          rw [mix_put hlt] at hA
          refine wpAt_none rfl rfl ?_
          simp only [frOf, Act.put]
          go_wp2_with fail
          first | exact ⟨trivial, trivial, trivial, ⟨hS.1.go (fun _ => hd 10 (by decide)), hS.2.1.go (fun e => absurd e (by decide)), Once.done hA⟩⟩ | exact ⟨trivial, trivial, ⟨hS.1.go (fun _ => hd 10 (by decide)), hS.2.1.go (fun e => absurd e (by decide)), Once.done hA⟩⟩ | exact ⟨trivial, ⟨hS.1.go (fun _ => hd 10 (by decide)), hS.2.1.go (fun e => absurd e (by decide)), Once.done hA⟩⟩
      · intro L vals W hall hφ hS
        have k0 : vals 0 = .int .i64 k := hφ 0 (by decide)
        have k1 : vals 1 = fv := hφ 1 (by decide)
        have k2 : vals 2 = .int .i64 k := hφ 2 (by decide)
        have k3 : vals 3 = .pointer (some ⟨w.heap.size, 1, none⟩) := hφ 3 (by decide)
        have k4 : vals 4 = .pointer (some ⟨w.heap.size, 1 + k * 2, none⟩) := hφ 4 (by decide)
        have k5 : vals 5 = .agg #[.int .i64 (l k), .int .i64 (h k)] := hφ 5 (by decide)
        have k6 : vals 6 = .int .i64 k := hφ 6 (by decide)
        have k7 : vals 7 = .pointer (some ⟨w.heap.size + 1, 1, none⟩) := hφ 7 (by decide)
        have k8 : vals 8 = .pointer (some ⟨w.heap.size + 1, 1 + k * 2, none⟩) := hφ 8 (by decide)
        have k9 : vals 9 = .agg #[.int .i64 (l' k), .int .i64 (h' k)] := hφ 9 (by decide)
        have k10 : vals 10 = .agg #[.int .i64 (F k), .int .i64 (G k)] := hφ 10 (by decide)
        have k11 : vals 11 = .pointer (some ⟨w.heap.size, 1, none⟩) := hφ 11 (by decide)
        have k12 : vals 12 = .pointer (some ⟨w.heap.size, 1 + k * 2, none⟩) := hφ 12 (by decide)
        have H := hS.2.2.2 (hall 13 (by decide))
        simp only [frOf, Act.put, List.setIfInBounds_toArray, List.set_cons_succ, List.set_cons_zero, k0, k1, k2, k3, k4, k5, k6, k7, k8, k9, k10, k11, k12]
        clear k0 k1 k2 k3 k4 k5 k6 k7 k8 k9 k10 k11 k12 hall hφ hS0 hS
        go_wp2_with fail
        go_roundw
        case rel => exact ⟨k + 1, by omega, by go_num, H⟩
        case measure => simp [intOf]; omega
    · obtain rfl : k = 5 := by omega
      have eF : arrL true (mixF 5 F l) (mixF 5 G h) = arrL true F G := by simp [arrL, mixF]
      rw [eF] at H
      have o0 := H.cell List.mem_cons_self (i := 0) rfl
      have o1 := H.cell List.mem_cons_self (i := 1) rfl
      have o2 := H.cell List.mem_cons_self (i := 2) rfl
      have o3 := H.cell List.mem_cons_self (i := 3) rfl
      have o4 := H.cell List.mem_cons_self (i := 4) rfl
      have o5 := H.cell List.mem_cons_self (i := 5) rfl
      have o6 := H.cell List.mem_cons_self (i := 6) rfl
      have o7 := H.cell List.mem_cons_self (i := 7) rfl
      have o8 := H.cell List.mem_cons_self (i := 8) rfl
      have o9 := H.cell List.mem_cons_self (i := 9) rfl
      have o10 := H.cell List.mem_cons_self (i := 10) rfl
      have r0 := H.cell (List.mem_cons_of_mem _ mZ) (i := 0) rfl
      have r1 := H.cell (List.mem_cons_of_mem _ mZ) (i := 1) rfl
      have r2 := H.cell (List.mem_cons_of_mem _ mZ) (i := 2) rfl
      have r3 := H.cell (List.mem_cons_of_mem _ mZ) (i := 3) rfl
      have r4 := H.cell (List.mem_cons_of_mem _ mZ) (i := 4) rfl
      have r5 := H.cell (List.mem_cons_of_mem _ mZ) (i := 5) rfl
      have r6 := H.cell (List.mem_cons_of_mem _ mZ) (i := 6) rfl
      have r7 := H.cell (List.mem_cons_of_mem _ mZ) (i := 7) rfl
      have r8 := H.cell (List.mem_cons_of_mem _ mZ) (i := 8) rfl
      have r9 := H.cell (List.mem_cons_of_mem _ mZ) (i := 9) rfl
      have r10 := H.cell (List.mem_cons_of_mem _ mZ) (i := 10) rfl
      have fr := H.free _ (List.mem_cons_of_mem _ mZ)
      have bE := H.below
      dsimp only at fr o0 r0 o1 r1 o2 r2 o3 r3 o4 r4 o5 r5 o6 r6 o7 r7 o8 r8 o9 r9 o10 r10
      obtain ⟨e0, e1, e2, e3, e4, e5, e6, e7, e8, e9, e10⟩ := own11c r0 r1 r2 r3 r4 r5 r6 r7 r8 r9 r10
      clear H hf
      go_wp2_with fail
      refine bodyPost_ret (v := .agg #[.bool true, .int .i64 (F 0), .int .i64 (G 0), .int .i64 (F 1), .int .i64 (G 1), .int .i64 (F 2), .int .i64 (G 2), .int .i64 (F 3), .int .i64 (G 3), .int .i64 (F 4), .int .i64 (G 4)]) (by simp [results, Try.results72, go_sem, e0, e1, e2, e3, e4, e5, e6, e7, e8, e9, e10]) rfl ⟨rfl, ?_⟩
      exact setAll_below (g := w.heap.size + 1 + 1) (by omega) [.bool true, .int .i64 (F 0), .int .i64 (G 0), .int .i64 (F 1), .int .i64 (G 1), .int .i64 (F 2), .int .i64 (G 2), .int .i64 (F 3), .int .i64 (G 3), .int .i64 (F 4), .int .i64 (G 4)] 0 _ bE
end Go.Proofs.Ytiehokibfdaleaa
