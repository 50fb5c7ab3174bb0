/- Two arrivals taken bounds by bounds, by a function that is handed in; the join of two arrivals. · An arrival's join; the fold over two of them. -/
import Derived.Test.YtiehokibfdaleaaG16
namespace Go.Proofs.Ytiehokibfdaleaa
open Go.ChangeShapes Go.WideShapes Go.ChangeAt Go.RowKit
set_option linter.unusedVariables false

abbrev arrL (on : Bool) (l h : Nat → Int) : List Value := [Value.bool on, .int .i64 (l 0), .int .i64 (h 0), .int .i64 (l 1), .int .i64 (h 1), .int .i64 (l 2), .int .i64 (h 2), .int .i64 (l 3), .int .i64 (h 3), .int .i64 (l 4), .int .i64 (h 4)]
theorem arr_lo (on : Bool) (l h : Nat → Int) {k : Nat} (hk : k < 5) : (arrL on l h)[1 + k * 2]? = some (.int .i64 (l k)) := cellAt_lo on l h hk
theorem arr_hi (on : Bool) (l h : Nat → Int) {k : Nat} (hk : k < 5) : (arrL on l h)[1 + k * 2 + 1]? = some (.int .i64 (h k)) := cellAt_hi on l h hk
def mixF (k : Nat) (f l : Nat → Int) : Nat → Int := fun j => if j < k then f j else l j
theorem mixF_k (k : Nat) (f l : Nat → Int) : mixF k f l k = l k := if_neg (Nat.lt_irrefl k)
theorem mix_put {k : Nat} {F G l h : Nat → Int} (hk : k < 5) : ((arrL true (mixF k F l) (mixF k G h)).set (1 + k * 2) (.int .i64 (F k))).set (1 + k * 2 + 1) (.int .i64 (G k)) = arrL true (mixF (k + 1) F l) (mixF (k + 1) G h) := by
  rcases (show k = 0 ∨ k = 1 ∨ k = 2 ∨ k = 3 ∨ k = 4 by omega) with rfl | rfl | rfl | rfl | rfl <;> simp [arrL, mixF]
/-- Operation b stands behind operation a. -/
def Imp (a b : Nat) (L : Nat → Bool) : Prop := L b = true → L a = true
theorem Imp.go {a b : Nat} {L : Nat → Bool} (h : Imp a b L) {i : Nat} (hi : i = b → L a = true) : Imp a b (upd L i true) := by
  intro e
  by_cases ea : a = i
  · subst ea; exact upd_same _ _ _
  · rw [upd_other _ _ ea]
    by_cases eb : b = i
    · exact hi eb.symm
    · rw [upd_other _ _ eb] at e; exact h e
theorem Imp.no {a b : Nat} {L : Nat → Bool} (h : Imp a b L) (ha : L a = false) : L b = false := by
  cases e : L b
  · rfl
  · rw [h e] at ha; cases ha
theorem Once.next {j : Nat} {w : World} {L0 L1 : List (Nat × List Value)} {L : Nat → Bool} {W W' : World} (h : Once j w L0 L1 L W) (hb : Below W.heap.size W W') : Once j w L0 L1 L W' := ⟨fun e => (h.1 e).next hb, fun e => (h.2 e).next hb⟩
def BesS (w : World) (L0 L1 : List (Nat × List Value)) (L : Nat → Bool) (W : World) : Prop := Imp 10 13 L ∧ Imp 5 10 L ∧ Once 13 w L0 L1 L W
set_option maxRecDepth 10000 in
set_option maxHeartbeats 8000000 in
theorem beside_f (on' : Bool) (l h l' h' : Nat → Int) (fv : Value) (w : World) :
    Calls Try.prog 72 #[.agg #[.bool false, .int .i64 (l 0), .int .i64 (h 0), .int .i64 (l 1), .int .i64 (h 1), .int .i64 (l 2), .int .i64 (h 2), .int .i64 (l 3), .int .i64 (h 3), .int .i64 (l 4), .int .i64 (h 4)], .agg #[.bool on', .int .i64 (l' 0), .int .i64 (h' 0), .int .i64 (l' 1), .int .i64 (h' 1), .int .i64 (l' 2), .int .i64 (h' 2), .int .i64 (l' 3), .int .i64 (h' 3), .int .i64 (l' 4), .int .i64 (h' 4)], fv] w fun e w' => e = .returned (.agg #[.bool on', .int .i64 (l' 0), .int .i64 (h' 0), .int .i64 (l' 1), .int .i64 (h' 1), .int .i64 (l' 2), .int .i64 (h' 2), .int .i64 (l' 3), .int .i64 (h' 3), .int .i64 (l' 4), .int .i64 (h' 4)]) ∧ Below w.heap.size w w' := by
  go_enter Try.func72, Try.ntmps72
  go_wp2_with fail
  refine bodyPost_ret (v := .agg #[.bool on', .int .i64 (l' 0), .int .i64 (h' 0), .int .i64 (l' 1), .int .i64 (h' 1), .int .i64 (l' 2), .int .i64 (h' 2), .int .i64 (l' 3), .int .i64 (h' 3), .int .i64 (l' 4), .int .i64 (h' 4)]) (by simp [results, Try.results72, go_sem]) rfl ⟨rfl, ?_⟩
  exact Below.alloc (Below.alloc (Below.alloc (Below.refl _ _) (Nat.le_refl _) _) (by simp) _) (by simp; omega) _
set_option maxRecDepth 10000 in
set_option maxHeartbeats 8000000 in
theorem beside_tf (l h l' h' : Nat → Int) (fv : Value) (w : World) :
    Calls Try.prog 72 #[.agg #[.bool true, .int .i64 (l 0), .int .i64 (h 0), .int .i64 (l 1), .int .i64 (h 1), .int .i64 (l 2), .int .i64 (h 2), .int .i64 (l 3), .int .i64 (h 3), .int .i64 (l 4), .int .i64 (h 4)], .agg #[.bool false, .int .i64 (l' 0), .int .i64 (h' 0), .int .i64 (l' 1), .int .i64 (h' 1), .int .i64 (l' 2), .int .i64 (h' 2), .int .i64 (l' 3), .int .i64 (h' 3), .int .i64 (l' 4), .int .i64 (h' 4)], fv] w fun e w' => e = .returned (.agg #[.bool true, .int .i64 (l 0), .int .i64 (h 0), .int .i64 (l 1), .int .i64 (h 1), .int .i64 (l 2), .int .i64 (h 2), .int .i64 (l 3), .int .i64 (h 3), .int .i64 (l 4), .int .i64 (h 4)]) ∧ Below w.heap.size w w' := by
  go_enter Try.func72, Try.ntmps72
  go_wp2_with fail
  refine bodyPost_ret (v := .agg #[.bool true, .int .i64 (l 0), .int .i64 (h 0), .int .i64 (l 1), .int .i64 (h 1), .int .i64 (l 2), .int .i64 (h 2), .int .i64 (l 3), .int .i64 (h 3), .int .i64 (l 4), .int .i64 (h 4)]) (by simp [results, Try.results72, go_sem]) rfl ⟨rfl, ?_⟩
  exact Below.alloc (Below.alloc (Below.alloc (Below.refl _ _) (Nat.le_refl _) _) (by simp) _) (by simp; omega) _
set_option maxRecDepth 10000 in
set_option maxHeartbeats 16000000 in
theorem beside_join (l h l' h' : Nat → Int) (w : World) :
    Calls Try.prog 72 #[.agg #[.bool true, .int .i64 (l 0), .int .i64 (h 0), .int .i64 (l 1), .int .i64 (h 1), .int .i64 (l 2), .int .i64 (h 2), .int .i64 (l 3), .int .i64 (h 3), .int .i64 (l 4), .int .i64 (h 4)], .agg #[.bool true, .int .i64 (l' 0), .int .i64 (h' 0), .int .i64 (l' 1), .int .i64 (h' 1), .int .i64 (l' 2), .int .i64 (h' 2), .int .i64 (l' 3), .int .i64 (h' 3), .int .i64 (l' 4), .int .i64 (h' 4)], .func (.func 73) #[] #[]] w fun e w' => e = .returned (.agg #[.bool true, .int .i64 ((fun k => joinLo (l k) (h k) (l' k) (h' k)) 0), .int .i64 ((fun k => joinHi (l k) (h k) (l' k) (h' k)) 0), .int .i64 ((fun k => joinLo (l k) (h k) (l' k) (h' k)) 1), .int .i64 ((fun k => joinHi (l k) (h k) (l' k) (h' k)) 1), .int .i64 ((fun k => joinLo (l k) (h k) (l' k) (h' k)) 2), .int .i64 ((fun k => joinHi (l k) (h k) (l' k) (h' k)) 2), .int .i64 ((fun k => joinLo (l k) (h k) (l' k) (h' k)) 3), .int .i64 ((fun k => joinHi (l k) (h k) (l' k) (h' k)) 3), .int .i64 ((fun k => joinLo (l k) (h k) (l' k) (h' k)) 4), .int .i64 ((fun k => joinHi (l k) (h k) (l' k) (h' k)) 4)]) ∧ Below w.heap.size w w' := by
  have hf := fun a b c d (w : World) => joinI a b c d w
  obtain ⟨F, hF⟩ : ∃ F : Nat → Int, (fun k => joinLo (l k) (h k) (l' k) (h' k)) = F := ⟨_, rfl⟩
  obtain ⟨G, hG⟩ : ∃ G : Nat → Int, (fun k => joinHi (l k) (h k) (l' k) (h' k)) = G := ⟨_, rfl⟩
  have hFk : ∀ k, joinLo (l k) (h k) (l' k) (h' k) = F k := fun k => congrFun hF k
  have hGk : ∀ k, joinHi (l k) (h k) (l' k) (h' k) = G k := fun k => congrFun hG k
  rw [hF, hG]
  replace hf : ∀ k (w : World), Calls Try.prog 73 #[.agg #[.int .i64 (l k), .int .i64 (h k)], .agg #[.int .i64 (l' k), .int .i64 (h' k)]] w fun e w' => e = .returned (.agg #[.int .i64 (F k), .int .i64 (G k)]) ∧ Below w.heap.size w w' := fun k w => by
    have := hf (l k) (h k) (l' k) (h' k) w
    rwa [hFk, hGk] at this
  clear hFk hGk hF hG
  have H : HeldL w ((w.heap.size, arrL true (mixF 0 F l) (mixF 0 G h)) :: [(w.heap.size + 1 + 1, [Value.bool false, .int .i64 0, .int .i64 0, .int .i64 0, .int .i64 0, .int .i64 0, .int .i64 0, .int .i64 0, .int .i64 0, .int .i64 0, .int .i64 0]), (w.heap.size + 1, arrL true l' h')]) (((w.alloc (.cells #[.bool true, .int .i64 (l 0), .int .i64 (h 0), .int .i64 (l 1), .int .i64 (h 1), .int .i64 (l 2), .int .i64 (h 2), .int .i64 (l 3), .int .i64 (h 3), .int .i64 (l 4), .int .i64 (h 4)] 49)).alloc (.cells #[.bool true, .int .i64 (l' 0), .int .i64 (h' 0), .int .i64 (l' 1), .int .i64 (h' 1), .int .i64 (l' 2), .int .i64 (h' 2), .int .i64 (l' 3), .int .i64 (h' 3), .int .i64 (l' 4), .int .i64 (h' 4)] 49)).alloc (.cells #[.bool false, .int .i64 0, .int .i64 0, .int .i64 0, .int .i64 0, .int .i64 0, .int .i64 0, .int .i64 0, .int .i64 0, .int .i64 0, .int .i64 0] 49)) := by
    have e1 : w.heap.size + 1 = (w.alloc (.cells #[.bool true, .int .i64 (l 0), .int .i64 (h 0), .int .i64 (l 1), .int .i64 (h 1), .int .i64 (l 2), .int .i64 (h 2), .int .i64 (l 3), .int .i64 (h 3), .int .i64 (l 4), .int .i64 (h 4)] 49)).heap.size := by simp
    have e2 : w.heap.size + 1 + 1 = ((w.alloc (.cells #[.bool true, .int .i64 (l 0), .int .i64 (h 0), .int .i64 (l 1), .int .i64 (h 1), .int .i64 (l 2), .int .i64 (h 2), .int .i64 (l 3), .int .i64 (h 3), .int .i64 (l 4), .int .i64 (h 4)] 49)).alloc (.cells #[.bool true, .int .i64 (l' 0), .int .i64 (h' 0), .int .i64 (l' 1), .int .i64 (h' 1), .int .i64 (l' 2), .int .i64 (h' 2), .int .i64 (l' 3), .int .i64 (h' 3), .int .i64 (l' 4), .int .i64 (h' 4)] 49)).heap.size := by simp
    rw [e2, e1]
    refine HeldL.sub ?_ (HeldL.newL (vs := [Value.bool false, .int .i64 0, .int .i64 0, .int .i64 0, .int .i64 0, .int .i64 0, .int .i64 0, .int .i64 0, .int .i64 0, .int .i64 0, .int .i64 0]) (HeldL.newL (vs := [Value.bool true, .int .i64 (l' 0), .int .i64 (h' 0), .int .i64 (l' 1), .int .i64 (h' 1), .int .i64 (l' 2), .int .i64 (h' 2), .int .i64 (l' 3), .int .i64 (h' 3), .int .i64 (l' 4), .int .i64 (h' 4)]) (HeldL.newL (vs := [Value.bool true, .int .i64 (l 0), .int .i64 (h 0), .int .i64 (l 1), .int .i64 (h 1), .int .i64 (l 2), .int .i64 (h 2), .int .i64 (l 3), .int .i64 (h 3), .int .i64 (l 4), .int .i64 (h 4)]) (HeldL.nil w))))
    intro e he
    simp only [List.mem_cons, List.not_mem_nil, or_false] at he ⊢
    rcases he with rfl | rfl | rfl <;> simp [arrL, mixF]
  obtain ⟨Lr, hLr⟩ : ∃ L, L = [(w.heap.size + 1 + 1, [Value.bool false, .int .i64 0, .int .i64 0, .int .i64 0, .int .i64 0, .int .i64 0, .int .i64 0, .int .i64 0, .int .i64 0, .int .i64 0, .int .i64 0]), (w.heap.size + 1, arrL true l' h')] := ⟨_, rfl⟩
  have ne0 : ∀ e ∈ Lr, e.1 ≠ w.heap.size := by rw [hLr]; intro e he; simp at he; rcases he with rfl | rfl <;> dsimp only <;> omega
  have mB : (w.heap.size + 1, arrL true l' h') ∈ Lr := by rw [hLr]; simp
  have mZ : (w.heap.size + 1 + 1, [Value.bool false, .int .i64 0, .int .i64 0, .int .i64 0, .int .i64 0, .int .i64 0, .int .i64 0, .int .i64 0, .int .i64 0, .int .i64 0, .int .i64 0]) ∈ Lr := by rw [hLr]; simp
  rw [← hLr] at H
  clear hLr
  obtain ⟨fv, hfv⟩ : ∃ v, v = Value.func (.func 73) #[] #[] := ⟨_, rfl⟩
  rw [← hfv]
  have hfvS : Hid (fv = Value.func (.func 73) #[] #[]) := hfv
  clear hfv
  go_enter Try.func72, Try.ntmps72
  go_wp2_with fail
  go_loopw [16] (fun i wr => ∃ k : Nat, k ≤ 5 ∧ i = .int .i64 k ∧ HeldL w ((w.heap.size, arrL true (mixF k F l) (mixF k G h)) :: Lr) wr) (fun i _ => 5 - (intOf i).toNat)
  case atStart => exact ⟨0, Nat.zero_le _, rfl, H⟩
  case round =>
    clear H
    obtain ⟨k, hk, rfl, H⟩ := hrel
    by_cases hlt : k < 5
    · have t1 : ((k : Int)).toNat = k := by omega
      have t2 : (0 : Int) ≤ (k : Int) := by omega
      have t3 : (k : Int) < 5 := by omega
      have hS0 : BesS w ((w.heap.size, arrL true (mixF k F l) (mixF k G h)) :: Lr) ((w.heap.size, arrL true (mixF (k + 1) F l) (mixF (k + 1) G h)) :: Lr) (fun _ => false) wr.drew := ⟨(fun e => by cases e), (fun e => by cases e), Once.start H.drew⟩
      clear H
      go_wp2_with fail
      refine region_inv3 [(0, 19), (1, 20), (2, 21), (3, 22), (4, 23), (5, 24), (6, 25), (7, 26), (8, 27), (9, 28), (10, 29), (11, 30), (12, 31)]
        (fun j v _ => match j with
          | 0 => Is (.int .i64 k) v
          | 1 => Is (fv) v
          | 2 => Is (.int .i64 k) v
          | 3 => Is (.pointer (some ⟨w.heap.size, 1, none⟩)) v
          | 4 => Is (.pointer (some ⟨w.heap.size, 1 + k * 2, none⟩)) v
          | 5 => Is (.agg #[.int .i64 (l k), .int .i64 (h k)]) v
          | 6 => Is (.int .i64 k) v
          | 7 => Is (.pointer (some ⟨w.heap.size + 1, 1, none⟩)) v
          | 8 => Is (.pointer (some ⟨w.heap.size + 1, 1 + k * 2, none⟩)) v
          | 9 => Is (.agg #[.int .i64 (l' k), .int .i64 (h' k)]) v
          | 10 => Is (.agg #[.int .i64 (F k), .int .i64 (G k)]) v
          | 11 => Is (.pointer (some ⟨w.heap.size, 1, none⟩)) v
          | 12 => Is (.pointer (some ⟨w.heap.size, 1 + k * 2, none⟩)) v
          | _ => True)
        (fun L W => BesS w ((w.heap.size, arrL true (mixF k F l) (mixF k G h)) :: Lr) ((w.heap.size, arrL true (mixF (k + 1) F l) (mixF (k + 1) G h)) :: Lr) L W) TT
        (by kernel_rfl) (by kernel_rfl) (by kernel_rfl) (by kernel_rfl) (by kernel_rfl) rfl hS0 (fun i j v W W' _ h _ => h) ?_ ?_
      · intro i L vals W hi' hφ hS hL hd
        have hi2 : i < 14 := hi'
        clear hi' hS0
        rcases (show i = 0 ∨ i = 1 ∨ i = 2 ∨ i = 3 ∨ i = 4 ∨ i = 5 ∨ i = 6 ∨ i = 7 ∨ i = 8 ∨ i = 9 ∨ i = 10 ∨ i = 11 ∨ i = 12 ∨ i = 13 by omega) with rfl | rfl | rfl | rfl | rfl | rfl | rfl | rfl | rfl | rfl | rfl | rfl | rfl | rfl
        · refine wpAt_of rfl rfl ?_
          simp only [frOf, Act.put]
          go_wp2_with fail
          first | exact ⟨trivial, rfl, trivial, ⟨hS.1.go (fun e => absurd e (by decide)), hS.2.1.go (fun e => absurd e (by decide)), hS.2.2.keep (by decide)⟩⟩ | exact ⟨rfl, trivial, ⟨hS.1.go (fun e => absurd e (by decide)), hS.2.1.go (fun e => absurd e (by decide)), hS.2.2.keep (by decide)⟩⟩
        · refine wpAt_of rfl rfl ?_
          simp only [frOf, Act.put]
          go_wp2_with fail
          first | exact ⟨trivial, rfl, trivial, ⟨hS.1.go (fun e => absurd e (by decide)), hS.2.1.go (fun e => absurd e (by decide)), hS.2.2.keep (by decide)⟩⟩ | exact ⟨rfl, trivial, ⟨hS.1.go (fun e => absurd e (by decide)), hS.2.1.go (fun e => absurd e (by decide)), hS.2.2.keep (by decide)⟩⟩
        · refine wpAt_of rfl rfl ?_
          simp only [frOf, Act.put]
          go_wp2_with fail
          first | exact ⟨trivial, rfl, trivial, ⟨hS.1.go (fun e => absurd e (by decide)), hS.2.1.go (fun e => absurd e (by decide)), hS.2.2.keep (by decide)⟩⟩ | exact ⟨rfl, trivial, ⟨hS.1.go (fun e => absurd e (by decide)), hS.2.1.go (fun e => absurd e (by decide)), hS.2.2.keep (by decide)⟩⟩
        · refine wpAt_of rfl rfl ?_
          simp only [frOf, Act.put]
          go_wp2_with fail
          first | exact ⟨trivial, rfl, trivial, ⟨hS.1.go (fun e => absurd e (by decide)), hS.2.1.go (fun e => absurd e (by decide)), hS.2.2.keep (by decide)⟩⟩ | exact ⟨rfl, trivial, ⟨hS.1.go (fun e => absurd e (by decide)), hS.2.1.go (fun e => absurd e (by decide)), hS.2.2.keep (by decide)⟩⟩
        · have k2 : vals 2 = .int .i64 k := hφ 2 (hd 2 (by decide))
          have k3 : vals 3 = .pointer (some ⟨w.heap.size, 1, none⟩) := hφ 3 (hd 3 (by decide))
          refine wpAt_of rfl rfl ?_
          simp only [frOf, Act.put]
          go_wp2_with fail
          first | exact ⟨trivial, rfl, trivial, ⟨hS.1.go (fun e => absurd e (by decide)), hS.2.1.go (fun e => absurd e (by decide)), hS.2.2.keep (by decide)⟩⟩ | exact ⟨rfl, trivial, ⟨hS.1.go (fun e => absurd e (by decide)), hS.2.1.go (fun e => absurd e (by decide)), hS.2.2.keep (by decide)⟩⟩
        · have k4 : vals 4 = .pointer (some ⟨w.heap.size, 1 + k * 2, none⟩) := hφ 4 (hd 4 (by decide))
          have h13 : L 13 = false := hS.1.no (hS.2.1.no hL)
          have hH := hS.2.2.1 h13
          have d0 := hH.cell List.mem_cons_self (i := 1 + k * 2) (arr_lo true (mixF k F l) (mixF k G h) hlt)
          have d1 := hH.cell List.mem_cons_self (i := 1 + k * 2 + 1) (arr_hi true (mixF k F l) (mixF k G h) hlt)
          rw [mixF_k] at d0 d1
          dsimp only at d0 d1
          refine wpAt_of rfl rfl ?_
          simp only [frOf, Act.put]
          go_wp2_with fail
          first | exact ⟨trivial, rfl, trivial, ⟨hS.1.go (fun e => absurd e (by decide)), hS.2.1.go (fun e => absurd e (by decide)), hS.2.2.keep (by decide)⟩⟩ | exact ⟨rfl, trivial, ⟨hS.1.go (fun e => absurd e (by decide)), hS.2.1.go (fun e => absurd e (by decide)), hS.2.2.keep (by decide)⟩⟩
        · refine wpAt_of rfl rfl ?_
          simp only [frOf, Act.put]
          go_wp2_with fail
          first | exact ⟨trivial, rfl, trivial, ⟨hS.1.go (fun e => absurd e (by decide)), hS.2.1.go (fun e => absurd e (by decide)), hS.2.2.keep (by decide)⟩⟩ | exact ⟨rfl, trivial, ⟨hS.1.go (fun e => absurd e (by decide)), hS.2.1.go (fun e => absurd e (by decide)), hS.2.2.keep (by decide)⟩⟩
        · refine wpAt_of rfl rfl ?_
          simp only [frOf, Act.put]
          go_wp2_with fail
          first | exact ⟨trivial, rfl, trivial, ⟨hS.1.go (fun e => absurd e (by decide)), hS.2.1.go (fun e => absurd e (by decide)), hS.2.2.keep (by decide)⟩⟩ | exact ⟨rfl, trivial, ⟨hS.1.go (fun e => absurd e (by decide)), hS.2.1.go (fun e => absurd e (by decide)), hS.2.2.keep (by decide)⟩⟩
        · have k6 : vals 6 = .int .i64 k := hφ 6 (hd 6 (by decide))
          have k7 : vals 7 = .pointer (some ⟨w.heap.size + 1, 1, none⟩) := hφ 7 (hd 7 (by decide))
          refine wpAt_of rfl rfl ?_
          simp only [frOf, Act.put]
          go_wp2_with fail
          first | exact ⟨trivial, rfl, trivial, ⟨hS.1.go (fun e => absurd e (by decide)), hS.2.1.go (fun e => absurd e (by decide)), hS.2.2.keep (by decide)⟩⟩ | exact ⟨rfl, trivial, ⟨hS.1.go (fun e => absurd e (by decide)), hS.2.1.go (fun e => absurd e (by decide)), hS.2.2.keep (by decide)⟩⟩
        · have k8 : vals 8 = .pointer (some ⟨w.heap.size + 1, 1 + k * 2, none⟩) := hφ 8 (hd 8 (by decide))
          have hc : ∀ j v, (arrL true l' h')[j]? = some v → W.cell? ⟨w.heap.size + 1, j, none⟩ = some v := fun j v hj => by cases h13 : L 13 <;> first | exact (hS.2.2.1 h13).cell (List.mem_cons_of_mem _ mB) hj | exact (hS.2.2.2 h13).cell (List.mem_cons_of_mem _ mB) hj
          have d0 := hc _ _ (arr_lo true l' h' hlt)
          have d1 := hc _ _ (arr_hi true l' h' hlt)
          clear hc
          refine wpAt_of rfl rfl ?_
          simp only [frOf, Act.put]
          go_wp2_with fail
          first | exact ⟨trivial, rfl, trivial, ⟨hS.1.go (fun e => absurd e (by decide)), hS.2.1.go (fun e => absurd e (by decide)), hS.2.2.keep (by decide)⟩⟩ | exact ⟨rfl, trivial, ⟨hS.1.go (fun e => absurd e (by decide)), hS.2.1.go (fun e => absurd e (by decide)), hS.2.2.keep (by decide)⟩⟩
        · have k1 : vals 1 = fv := hφ 1 (hd 1 (by decide))
          have k5 : vals 5 = .agg #[.int .i64 (l k), .int .i64 (h k)] := hφ 5 (hd 5 (by decide))
          have k9 : vals 9 = .agg #[.int .i64 (l' k), .int .i64 (h' k)] := hφ 9 (hd 9 (by decide))
          rw [hfvS.out] at k1
          refine wpAt_of rfl rfl ?_
          simp only [frOf, Act.put]
          go_wp2_with fail
          refine (hf _ _).mono ?_
          rintro e W' ⟨rfl, hb⟩
          go_wp2_with fail
          first | exact ⟨trivial, rfl, trivial, ⟨hS.1.go (fun e => absurd e (by decide)), hS.2.1.go (fun _ => hd 5 (by decide)), (hS.2.2.next hb).keep (by decide)⟩⟩ | exact ⟨rfl, trivial, ⟨hS.1.go (fun e => absurd e (by decide)), hS.2.1.go (fun _ => hd 5 (by decide)), (hS.2.2.next hb).keep (by decide)⟩⟩
        · refine wpAt_of rfl rfl ?_
          simp only [frOf, Act.put]
          go_wp2_with fail
          first | exact ⟨trivial, rfl, trivial, ⟨hS.1.go (fun e => absurd e (by decide)), hS.2.1.go (fun e => absurd e (by decide)), hS.2.2.keep (by decide)⟩⟩ | exact ⟨rfl, trivial, ⟨hS.1.go (fun e => absurd e (by decide)), hS.2.1.go (fun e => absurd e (by decide)), hS.2.2.keep (by decide)⟩⟩
        · have k0 : vals 0 = .int .i64 k := hφ 0 (hd 0 (by decide))
          have k11 : vals 11 = .pointer (some ⟨w.heap.size, 1, none⟩) := hφ 11 (hd 11 (by decide))
          refine wpAt_of rfl rfl ?_
          simp only [frOf, Act.put]
          go_wp2_with fail
          first | exact ⟨trivial, rfl, trivial, ⟨hS.1.go (fun e => absurd e (by decide)), hS.2.1.go (fun e => absurd e (by decide)), hS.2.2.keep (by decide)⟩⟩ | exact ⟨rfl, trivial, ⟨hS.1.go (fun e => absurd e (by decide)), hS.2.1.go (fun e => absurd e (by decide)), hS.2.2.keep (by decide)⟩⟩
        · have k10 : vals 10 = .agg #[.int .i64 (F k), .int .i64 (G k)] := hφ 10 (hd 10 (by decide))
          have k12 : vals 12 = .pointer (some ⟨w.heap.size, 1 + k * 2, none⟩) := hφ 12 (hd 12 (by decide))
          have hH := hS.2.2.1 hL
          have q0 := hH.cell List.mem_cons_self (i := 1 + k * 2) (arr_lo true (mixF k F l) (mixF k G h) hlt)
          have q1 := hH.cell List.mem_cons_self (i := 1 + k * 2 + 1) (arr_hi true (mixF k F l) (mixF k G h) hlt)
          have fr := hH.free _ List.mem_cons_self
          dsimp only at q0 q1 fr
          have hA := HeldL.putI (i := 1 + k * 2 + 1) (x := .int .i64 (G k)) (by omega) ne0 (HeldL.putI (i := 1 + k * 2) (x := .int .i64 (F k)) (by omega) ne0 hH (by simp [arrL]; omega)) (by simp [arrL]; omega)
          rw [mix_put hlt] at hA
          refine wpAt_none rfl rfl ?_
          simp only [frOf, Act.put]
          go_wp2_with fail
          first | exact ⟨trivial, trivial, trivial, ⟨hS.1.go (fun _ => hd 10 (by decide)), hS.2.1.go (fun e => absurd e (by decide)), Once.done hA⟩⟩ | exact ⟨trivial, trivial, ⟨hS.1.go (fun _ => hd 10 (by decide)), hS.2.1.go (fun e => absurd e (by decide)), Once.done hA⟩⟩ | exact ⟨trivial, ⟨hS.1.go (fun _ => hd 10 (by decide)), hS.2.1.go (fun e => absurd e (by decide)), Once.done hA⟩⟩
      · intro L vals W hall hφ hS
        have k0 : vals 0 = .int .i64 k := hφ 0 (by decide)
        have k1 : vals 1 = fv := hφ 1 (by decide)
        have k2 : vals 2 = .int .i64 k := hφ 2 (by decide)
        have k3 : vals 3 = .pointer (some ⟨w.heap.size, 1, none⟩) := hφ 3 (by decide)
        have k4 : vals 4 = .pointer (some ⟨w.heap.size, 1 + k * 2, none⟩) := hφ 4 (by decide)
        have k5 : vals 5 = .agg #[.int .i64 (l k), .int .i64 (h k)] := hφ 5 (by decide)
        have k6 : vals 6 = .int .i64 k := hφ 6 (by decide)
        have k7 : vals 7 = .pointer (some ⟨w.heap.size + 1, 1, none⟩) := hφ 7 (by decide)
        have k8 : vals 8 = .pointer (some ⟨w.heap.size + 1, 1 + k * 2, none⟩) := hφ 8 (by decide)
        have k9 : vals 9 = .agg #[.int .i64 (l' k), .int .i64 (h' k)] := hφ 9 (by decide)
        have k10 : vals 10 = .agg #[.int .i64 (F k), .int .i64 (G k)] := hφ 10 (by decide)
        have k11 : vals 11 = .pointer (some ⟨w.heap.size, 1, none⟩) := hφ 11 (by decide)
        have k12 : vals 12 = .pointer (some ⟨w.heap.size, 1 + k * 2, none⟩) := hφ 12 (by decide)
        have H := hS.2.2.2 (hall 13 (by decide))
        simp only [frOf, Act.put, List.setIfInBounds_toArray, List.set_cons_succ, List.set_cons_zero, k0, k1, k2, k3, k4, k5, k6, k7, k8, k9, k10, k11, k12]
        clear k0 k1 k2 k3 k4 k5 k6 k7 k8 k9 k10 k11 k12 hall hφ hS0 hS
        go_wp2_with fail
        go_roundw
        case rel => exact ⟨k + 1, by omega, by go_num, H⟩
        case measure => simp [intOf]; omega
    · obtain rfl : k = 5 := by omega
      have eF : arrL true (mixF 5 F l) (mixF 5 G h) = arrL true F G := by simp [arrL, mixF]
      rw [eF] at H
      have o0 := H.cell List.mem_cons_self (i := 0) rfl
      have o1 := H.cell List.mem_cons_self (i := 1) rfl
      have o2 := H.cell List.mem_cons_self (i := 2) rfl
      have o3 := H.cell List.mem_cons_self (i := 3) rfl
      have o4 := H.cell List.mem_cons_self (i := 4) rfl
      have o5 := H.cell List.mem_cons_self (i := 5) rfl
      have o6 := H.cell List.mem_cons_self (i := 6) rfl
      have o7 := H.cell List.mem_cons_self (i := 7) rfl
      have o8 := H.cell List.mem_cons_self (i := 8) rfl
      have o9 := H.cell List.mem_cons_self (i := 9) rfl
      have o10 := H.cell List.mem_cons_self (i := 10) rfl
      have r0 := H.cell (List.mem_cons_of_mem _ mZ) (i := 0) rfl
      have r1 := H.cell (List.mem_cons_of_mem _ mZ) (i := 1) rfl
      have r2 := H.cell (List.mem_cons_of_mem _ mZ) (i := 2) rfl
      have r3 := H.cell (List.mem_cons_of_mem _ mZ) (i := 3) rfl
      have r4 := H.cell (List.mem_cons_of_mem _ mZ) (i := 4) rfl
      have r5 := H.cell (List.mem_cons_of_mem _ mZ) (i := 5) rfl
      have r6 := H.cell (List.mem_cons_of_mem _ mZ) (i := 6) rfl
      have r7 := H.cell (List.mem_cons_of_mem _ mZ) (i := 7) rfl
      have r8 := H.cell (List.mem_cons_of_mem _ mZ) (i := 8) rfl
      have r9 := H.cell (List.mem_cons_of_mem _ mZ) (i := 9) rfl
      have r10 := H.cell (List.mem_cons_of_mem _ mZ) (i := 10) rfl
      have fr := H.free _ (List.mem_cons_of_mem _ mZ)
      have bE := H.below
      dsimp only at fr o0 r0 o1 r1 o2 r2 o3 r3 o4 r4 o5 r5 o6 r6 o7 r7 o8 r8 o9 r9 o10 r10
      obtain ⟨e0, e1, e2, e3, e4, e5, e6, e7, e8, e9, e10⟩ := own11c r0 r1 r2 r3 r4 r5 r6 r7 r8 r9 r10
      clear H hf
      go_wp2_with fail
      refine bodyPost_ret (v := .agg #[.bool true, .int .i64 (F 0), .int .i64 (G 0), .int .i64 (F 1), .int .i64 (G 1), .int .i64 (F 2), .int .i64 (G 2), .int .i64 (F 3), .int .i64 (G 3), .int .i64 (F 4), .int .i64 (G 4)]) (by simp [results, Try.results72, go_sem, e0, e1, e2, e3, e4, e5, e6, e7, e8, e9, e10]) rfl ⟨rfl, ?_⟩
      exact setAll_below (g := w.heap.size + 1 + 1) (by omega) [.bool true, .int .i64 (F 0), .int .i64 (G 0), .int .i64 (F 1), .int .i64 (G 1), .int .i64 (F 2), .int .i64 (G 2), .int .i64 (F 3), .int .i64 (G 3), .int .i64 (F 4), .int .i64 (G 4)] 0 _ bE
end Go.Proofs.Ytiehokibfdaleaa
namespace Go.Proofs.Ytiehokibfdaleaa
open Go.ChangeShapes Go.WideShapes Go.ChangeAt Go.RowKit
set_option linter.unusedVariables false

set_option maxRecDepth 10000 in
set_option maxHeartbeats 8000000 in
theorem joinM_f (on' : Bool) (l h l' h' : Nat → Int) (w : World) :
    Calls Try.prog 71 #[.agg #[.bool false, .int .i64 (l 0), .int .i64 (h 0), .int .i64 (l 1), .int .i64 (h 1), .int .i64 (l 2), .int .i64 (h 2), .int .i64 (l 3), .int .i64 (h 3), .int .i64 (l 4), .int .i64 (h 4)], .agg #[.bool on', .int .i64 (l' 0), .int .i64 (h' 0), .int .i64 (l' 1), .int .i64 (h' 1), .int .i64 (l' 2), .int .i64 (h' 2), .int .i64 (l' 3), .int .i64 (h' 3), .int .i64 (l' 4), .int .i64 (h' 4)]] w fun e w' => e = .returned (.agg #[.bool on', .int .i64 (l' 0), .int .i64 (h' 0), .int .i64 (l' 1), .int .i64 (h' 1), .int .i64 (l' 2), .int .i64 (h' 2), .int .i64 (l' 3), .int .i64 (h' 3), .int .i64 (l' 4), .int .i64 (h' 4)]) ∧ Below w.heap.size w w' := by

  have H : HeldL w [(w.heap.size + 1 + 1, [Value.bool false, .int .i64 0, .int .i64 0, .int .i64 0, .int .i64 0, .int .i64 0, .int .i64 0, .int .i64 0, .int .i64 0, .int .i64 0, .int .i64 0]), (w.heap.size + 1, [Value.bool on', .int .i64 (l' 0), .int .i64 (h' 0), .int .i64 (l' 1), .int .i64 (h' 1), .int .i64 (l' 2), .int .i64 (h' 2), .int .i64 (l' 3), .int .i64 (h' 3), .int .i64 (l' 4), .int .i64 (h' 4)]), (w.heap.size, [Value.bool false, .int .i64 (l 0), .int .i64 (h 0), .int .i64 (l 1), .int .i64 (h 1), .int .i64 (l 2), .int .i64 (h 2), .int .i64 (l 3), .int .i64 (h 3), .int .i64 (l 4), .int .i64 (h 4)])] (((w.alloc (.cells #[.bool false, .int .i64 (l 0), .int .i64 (h 0), .int .i64 (l 1), .int .i64 (h 1), .int .i64 (l 2), .int .i64 (h 2), .int .i64 (l 3), .int .i64 (h 3), .int .i64 (l 4), .int .i64 (h 4)] 49)).alloc (.cells #[.bool on', .int .i64 (l' 0), .int .i64 (h' 0), .int .i64 (l' 1), .int .i64 (h' 1), .int .i64 (l' 2), .int .i64 (h' 2), .int .i64 (l' 3), .int .i64 (h' 3), .int .i64 (l' 4), .int .i64 (h' 4)] 49)).alloc (.cells #[.bool false, .int .i64 0, .int .i64 0, .int .i64 0, .int .i64 0, .int .i64 0, .int .i64 0, .int .i64 0, .int .i64 0, .int .i64 0, .int .i64 0] 49)) := by
    have e1 : w.heap.size + 1 = (w.alloc (.cells #[.bool false, .int .i64 (l 0), .int .i64 (h 0), .int .i64 (l 1), .int .i64 (h 1), .int .i64 (l 2), .int .i64 (h 2), .int .i64 (l 3), .int .i64 (h 3), .int .i64 (l 4), .int .i64 (h 4)] 49)).heap.size := by simp
    have e2 : w.heap.size + 1 + 1 = ((w.alloc (.cells #[.bool false, .int .i64 (l 0), .int .i64 (h 0), .int .i64 (l 1), .int .i64 (h 1), .int .i64 (l 2), .int .i64 (h 2), .int .i64 (l 3), .int .i64 (h 3), .int .i64 (l 4), .int .i64 (h 4)] 49)).alloc (.cells #[.bool on', .int .i64 (l' 0), .int .i64 (h' 0), .int .i64 (l' 1), .int .i64 (h' 1), .int .i64 (l' 2), .int .i64 (h' 2), .int .i64 (l' 3), .int .i64 (h' 3), .int .i64 (l' 4), .int .i64 (h' 4)] 49)).heap.size := by simp
    rw [e2, e1]
    exact HeldL.newL (vs := [Value.bool false, .int .i64 0, .int .i64 0, .int .i64 0, .int .i64 0, .int .i64 0, .int .i64 0, .int .i64 0, .int .i64 0, .int .i64 0, .int .i64 0]) (HeldL.newL (vs := [Value.bool on', .int .i64 (l' 0), .int .i64 (h' 0), .int .i64 (l' 1), .int .i64 (h' 1), .int .i64 (l' 2), .int .i64 (h' 2), .int .i64 (l' 3), .int .i64 (h' 3), .int .i64 (l' 4), .int .i64 (h' 4)]) (HeldL.newL (vs := [Value.bool false, .int .i64 (l 0), .int .i64 (h 0), .int .i64 (l 1), .int .i64 (h 1), .int .i64 (l 2), .int .i64 (h 2), .int .i64 (l 3), .int .i64 (h 3), .int .i64 (l 4), .int .i64 (h 4)]) (HeldL.nil w)))
  go_enter Try.func71, Try.ntmps71
  go_wp2_with fail
  refine (beside_f _ _ _ _ _ _ _).mono ?_
  rintro e w1 ⟨rfl, hb⟩
  replace H := H.next hb
  clear hb
  have r0 := H.cell List.mem_cons_self (i := 0) rfl
  have r1 := H.cell List.mem_cons_self (i := 1) rfl
  have r2 := H.cell List.mem_cons_self (i := 2) rfl
  have r3 := H.cell List.mem_cons_self (i := 3) rfl
  have r4 := H.cell List.mem_cons_self (i := 4) rfl
  have r5 := H.cell List.mem_cons_self (i := 5) rfl
  have r6 := H.cell List.mem_cons_self (i := 6) rfl
  have r7 := H.cell List.mem_cons_self (i := 7) rfl
  have r8 := H.cell List.mem_cons_self (i := 8) rfl
  have r9 := H.cell List.mem_cons_self (i := 9) rfl
  have r10 := H.cell List.mem_cons_self (i := 10) rfl
  have fr := H.free _ List.mem_cons_self
  have bE := H.below
  dsimp only at fr r0 r1 r2 r3 r4 r5 r6 r7 r8 r9 r10
  obtain ⟨e0, e1, e2, e3, e4, e5, e6, e7, e8, e9, e10⟩ := own11c r0 r1 r2 r3 r4 r5 r6 r7 r8 r9 r10
  clear H
  go_wp2_with fail
  refine bodyPost_ret (v := .agg #[.bool on', .int .i64 (l' 0), .int .i64 (h' 0), .int .i64 (l' 1), .int .i64 (h' 1), .int .i64 (l' 2), .int .i64 (h' 2), .int .i64 (l' 3), .int .i64 (h' 3), .int .i64 (l' 4), .int .i64 (h' 4)]) (by simp [results, Try.results71, go_sem, e0, e1, e2, e3, e4, e5, e6, e7, e8, e9, e10]) rfl ⟨rfl, ?_⟩
  exact setAll_below (g := w.heap.size + 1 + 1) (by omega) [.bool on', .int .i64 (l' 0), .int .i64 (h' 0), .int .i64 (l' 1), .int .i64 (h' 1), .int .i64 (l' 2), .int .i64 (h' 2), .int .i64 (l' 3), .int .i64 (h' 3), .int .i64 (l' 4), .int .i64 (h' 4)] 0 _ bE
set_option maxRecDepth 10000 in
set_option maxHeartbeats 8000000 in
theorem joinM_tf (l h l' h' : Nat → Int) (w : World) :
    Calls Try.prog 71 #[.agg #[.bool true, .int .i64 (l 0), .int .i64 (h 0), .int .i64 (l 1), .int .i64 (h 1), .int .i64 (l 2), .int .i64 (h 2), .int .i64 (l 3), .int .i64 (h 3), .int .i64 (l 4), .int .i64 (h 4)], .agg #[.bool false, .int .i64 (l' 0), .int .i64 (h' 0), .int .i64 (l' 1), .int .i64 (h' 1), .int .i64 (l' 2), .int .i64 (h' 2), .int .i64 (l' 3), .int .i64 (h' 3), .int .i64 (l' 4), .int .i64 (h' 4)]] w fun e w' => e = .returned (.agg #[.bool true, .int .i64 (l 0), .int .i64 (h 0), .int .i64 (l 1), .int .i64 (h 1), .int .i64 (l 2), .int .i64 (h 2), .int .i64 (l 3), .int .i64 (h 3), .int .i64 (l 4), .int .i64 (h 4)]) ∧ Below w.heap.size w w' := by

  have H : HeldL w [(w.heap.size + 1 + 1, [Value.bool false, .int .i64 0, .int .i64 0, .int .i64 0, .int .i64 0, .int .i64 0, .int .i64 0, .int .i64 0, .int .i64 0, .int .i64 0, .int .i64 0]), (w.heap.size + 1, [Value.bool false, .int .i64 (l' 0), .int .i64 (h' 0), .int .i64 (l' 1), .int .i64 (h' 1), .int .i64 (l' 2), .int .i64 (h' 2), .int .i64 (l' 3), .int .i64 (h' 3), .int .i64 (l' 4), .int .i64 (h' 4)]), (w.heap.size, [Value.bool true, .int .i64 (l 0), .int .i64 (h 0), .int .i64 (l 1), .int .i64 (h 1), .int .i64 (l 2), .int .i64 (h 2), .int .i64 (l 3), .int .i64 (h 3), .int .i64 (l 4), .int .i64 (h 4)])] (((w.alloc (.cells #[.bool true, .int .i64 (l 0), .int .i64 (h 0), .int .i64 (l 1), .int .i64 (h 1), .int .i64 (l 2), .int .i64 (h 2), .int .i64 (l 3), .int .i64 (h 3), .int .i64 (l 4), .int .i64 (h 4)] 49)).alloc (.cells #[.bool false, .int .i64 (l' 0), .int .i64 (h' 0), .int .i64 (l' 1), .int .i64 (h' 1), .int .i64 (l' 2), .int .i64 (h' 2), .int .i64 (l' 3), .int .i64 (h' 3), .int .i64 (l' 4), .int .i64 (h' 4)] 49)).alloc (.cells #[.bool false, .int .i64 0, .int .i64 0, .int .i64 0, .int .i64 0, .int .i64 0, .int .i64 0, .int .i64 0, .int .i64 0, .int .i64 0, .int .i64 0] 49)) := by
    have e1 : w.heap.size + 1 = (w.alloc (.cells #[.bool true, .int .i64 (l 0), .int .i64 (h 0), .int .i64 (l 1), .int .i64 (h 1), .int .i64 (l 2), .int .i64 (h 2), .int .i64 (l 3), .int .i64 (h 3), .int .i64 (l 4), .int .i64 (h 4)] 49)).heap.size := by simp
    have e2 : w.heap.size + 1 + 1 = ((w.alloc (.cells #[.bool true, .int .i64 (l 0), .int .i64 (h 0), .int .i64 (l 1), .int .i64 (h 1), .int .i64 (l 2), .int .i64 (h 2), .int .i64 (l 3), .int .i64 (h 3), .int .i64 (l 4), .int .i64 (h 4)] 49)).alloc (.cells #[.bool false, .int .i64 (l' 0), .int .i64 (h' 0), .int .i64 (l' 1), .int .i64 (h' 1), .int .i64 (l' 2), .int .i64 (h' 2), .int .i64 (l' 3), .int .i64 (h' 3), .int .i64 (l' 4), .int .i64 (h' 4)] 49)).heap.size := by simp
    rw [e2, e1]
    exact HeldL.newL (vs := [Value.bool false, .int .i64 0, .int .i64 0, .int .i64 0, .int .i64 0, .int .i64 0, .int .i64 0, .int .i64 0, .int .i64 0, .int .i64 0, .int .i64 0]) (HeldL.newL (vs := [Value.bool false, .int .i64 (l' 0), .int .i64 (h' 0), .int .i64 (l' 1), .int .i64 (h' 1), .int .i64 (l' 2), .int .i64 (h' 2), .int .i64 (l' 3), .int .i64 (h' 3), .int .i64 (l' 4), .int .i64 (h' 4)]) (HeldL.newL (vs := [Value.bool true, .int .i64 (l 0), .int .i64 (h 0), .int .i64 (l 1), .int .i64 (h 1), .int .i64 (l 2), .int .i64 (h 2), .int .i64 (l 3), .int .i64 (h 3), .int .i64 (l 4), .int .i64 (h 4)]) (HeldL.nil w)))
  go_enter Try.func71, Try.ntmps71
  go_wp2_with fail
  refine (beside_tf _ _ _ _ _ _).mono ?_
  rintro e w1 ⟨rfl, hb⟩
  replace H := H.next hb
  clear hb
  have r0 := H.cell List.mem_cons_self (i := 0) rfl
  have r1 := H.cell List.mem_cons_self (i := 1) rfl
  have r2 := H.cell List.mem_cons_self (i := 2) rfl
  have r3 := H.cell List.mem_cons_self (i := 3) rfl
  have r4 := H.cell List.mem_cons_self (i := 4) rfl
  have r5 := H.cell List.mem_cons_self (i := 5) rfl
  have r6 := H.cell List.mem_cons_self (i := 6) rfl
  have r7 := H.cell List.mem_cons_self (i := 7) rfl
  have r8 := H.cell List.mem_cons_self (i := 8) rfl
  have r9 := H.cell List.mem_cons_self (i := 9) rfl
  have r10 := H.cell List.mem_cons_self (i := 10) rfl
  have fr := H.free _ List.mem_cons_self
  have bE := H.below
  dsimp only at fr r0 r1 r2 r3 r4 r5 r6 r7 r8 r9 r10
  obtain ⟨e0, e1, e2, e3, e4, e5, e6, e7, e8, e9, e10⟩ := own11c r0 r1 r2 r3 r4 r5 r6 r7 r8 r9 r10
  clear H
  go_wp2_with fail
  refine bodyPost_ret (v := .agg #[.bool true, .int .i64 (l 0), .int .i64 (h 0), .int .i64 (l 1), .int .i64 (h 1), .int .i64 (l 2), .int .i64 (h 2), .int .i64 (l 3), .int .i64 (h 3), .int .i64 (l 4), .int .i64 (h 4)]) (by simp [results, Try.results71, go_sem, e0, e1, e2, e3, e4, e5, e6, e7, e8, e9, e10]) rfl ⟨rfl, ?_⟩
  exact setAll_below (g := w.heap.size + 1 + 1) (by omega) [.bool true, .int .i64 (l 0), .int .i64 (h 0), .int .i64 (l 1), .int .i64 (h 1), .int .i64 (l 2), .int .i64 (h 2), .int .i64 (l 3), .int .i64 (h 3), .int .i64 (l 4), .int .i64 (h 4)] 0 _ bE
set_option maxRecDepth 10000 in
set_option maxHeartbeats 8000000 in
theorem joinM_tt (l h l' h' : Nat → Int) (F G : Nat → Int) (hF : (fun k => joinLo (l k) (h k) (l' k) (h' k)) = F) (hG : (fun k => joinHi (l k) (h k) (l' k) (h' k)) = G) (w : World) :
    Calls Try.prog 71 #[.agg #[.bool true, .int .i64 (l 0), .int .i64 (h 0), .int .i64 (l 1), .int .i64 (h 1), .int .i64 (l 2), .int .i64 (h 2), .int .i64 (l 3), .int .i64 (h 3), .int .i64 (l 4), .int .i64 (h 4)], .agg #[.bool true, .int .i64 (l' 0), .int .i64 (h' 0), .int .i64 (l' 1), .int .i64 (h' 1), .int .i64 (l' 2), .int .i64 (h' 2), .int .i64 (l' 3), .int .i64 (h' 3), .int .i64 (l' 4), .int .i64 (h' 4)]] w fun e w' => e = .returned (.agg #[.bool true, .int .i64 (F 0), .int .i64 (G 0), .int .i64 (F 1), .int .i64 (G 1), .int .i64 (F 2), .int .i64 (G 2), .int .i64 (F 3), .int .i64 (G 3), .int .i64 (F 4), .int .i64 (G 4)]) ∧ Below w.heap.size w w' := by
  subst hF hG
  have H : HeldL w [(w.heap.size + 1 + 1, [Value.bool false, .int .i64 0, .int .i64 0, .int .i64 0, .int .i64 0, .int .i64 0, .int .i64 0, .int .i64 0, .int .i64 0, .int .i64 0, .int .i64 0]), (w.heap.size + 1, [Value.bool true, .int .i64 (l' 0), .int .i64 (h' 0), .int .i64 (l' 1), .int .i64 (h' 1), .int .i64 (l' 2), .int .i64 (h' 2), .int .i64 (l' 3), .int .i64 (h' 3), .int .i64 (l' 4), .int .i64 (h' 4)]), (w.heap.size, [Value.bool true, .int .i64 (l 0), .int .i64 (h 0), .int .i64 (l 1), .int .i64 (h 1), .int .i64 (l 2), .int .i64 (h 2), .int .i64 (l 3), .int .i64 (h 3), .int .i64 (l 4), .int .i64 (h 4)])] (((w.alloc (.cells #[.bool true, .int .i64 (l 0), .int .i64 (h 0), .int .i64 (l 1), .int .i64 (h 1), .int .i64 (l 2), .int .i64 (h 2), .int .i64 (l 3), .int .i64 (h 3), .int .i64 (l 4), .int .i64 (h 4)] 49)).alloc (.cells #[.bool true, .int .i64 (l' 0), .int .i64 (h' 0), .int .i64 (l' 1), .int .i64 (h' 1), .int .i64 (l' 2), .int .i64 (h' 2), .int .i64 (l' 3), .int .i64 (h' 3), .int .i64 (l' 4), .int .i64 (h' 4)] 49)).alloc (.cells #[.bool false, .int .i64 0, .int .i64 0, .int .i64 0, .int .i64 0, .int .i64 0, .int .i64 0, .int .i64 0, .int .i64 0, .int .i64 0, .int .i64 0] 49)) := by
    have e1 : w.heap.size + 1 = (w.alloc (.cells #[.bool true, .int .i64 (l 0), .int .i64 (h 0), .int .i64 (l 1), .int .i64 (h 1), .int .i64 (l 2), .int .i64 (h 2), .int .i64 (l 3), .int .i64 (h 3), .int .i64 (l 4), .int .i64 (h 4)] 49)).heap.size := by simp
    have e2 : w.heap.size + 1 + 1 = ((w.alloc (.cells #[.bool true, .int .i64 (l 0), .int .i64 (h 0), .int .i64 (l 1), .int .i64 (h 1), .int .i64 (l 2), .int .i64 (h 2), .int .i64 (l 3), .int .i64 (h 3), .int .i64 (l 4), .int .i64 (h 4)] 49)).alloc (.cells #[.bool true, .int .i64 (l' 0), .int .i64 (h' 0), .int .i64 (l' 1), .int .i64 (h' 1), .int .i64 (l' 2), .int .i64 (h' 2), .int .i64 (l' 3), .int .i64 (h' 3), .int .i64 (l' 4), .int .i64 (h' 4)] 49)).heap.size := by simp
    rw [e2, e1]
    exact HeldL.newL (vs := [Value.bool false, .int .i64 0, .int .i64 0, .int .i64 0, .int .i64 0, .int .i64 0, .int .i64 0, .int .i64 0, .int .i64 0, .int .i64 0, .int .i64 0]) (HeldL.newL (vs := [Value.bool true, .int .i64 (l' 0), .int .i64 (h' 0), .int .i64 (l' 1), .int .i64 (h' 1), .int .i64 (l' 2), .int .i64 (h' 2), .int .i64 (l' 3), .int .i64 (h' 3), .int .i64 (l' 4), .int .i64 (h' 4)]) (HeldL.newL (vs := [Value.bool true, .int .i64 (l 0), .int .i64 (h 0), .int .i64 (l 1), .int .i64 (h 1), .int .i64 (l 2), .int .i64 (h 2), .int .i64 (l 3), .int .i64 (h 3), .int .i64 (l 4), .int .i64 (h 4)]) (HeldL.nil w)))
  go_enter Try.func71, Try.ntmps71
  go_wp2_with fail
  refine (beside_join _ _ _ _ _).mono ?_
  rintro e w1 ⟨rfl, hb⟩
  replace H := H.next hb
  clear hb
  have r0 := H.cell List.mem_cons_self (i := 0) rfl
  have r1 := H.cell List.mem_cons_self (i := 1) rfl
  have r2 := H.cell List.mem_cons_self (i := 2) rfl
  have r3 := H.cell List.mem_cons_self (i := 3) rfl
  have r4 := H.cell List.mem_cons_self (i := 4) rfl
  have r5 := H.cell List.mem_cons_self (i := 5) rfl
  have r6 := H.cell List.mem_cons_self (i := 6) rfl
  have r7 := H.cell List.mem_cons_self (i := 7) rfl
  have r8 := H.cell List.mem_cons_self (i := 8) rfl
  have r9 := H.cell List.mem_cons_self (i := 9) rfl
  have r10 := H.cell List.mem_cons_self (i := 10) rfl
  have fr := H.free _ List.mem_cons_self
  have bE := H.below
  dsimp only at fr r0 r1 r2 r3 r4 r5 r6 r7 r8 r9 r10
  obtain ⟨e0, e1, e2, e3, e4, e5, e6, e7, e8, e9, e10⟩ := own11c r0 r1 r2 r3 r4 r5 r6 r7 r8 r9 r10
  clear H
  go_wp2_with fail
  refine bodyPost_ret (v := .agg #[.bool true, .int .i64 ((fun k => joinLo (l k) (h k) (l' k) (h' k)) 0), .int .i64 ((fun k => joinHi (l k) (h k) (l' k) (h' k)) 0), .int .i64 ((fun k => joinLo (l k) (h k) (l' k) (h' k)) 1), .int .i64 ((fun k => joinHi (l k) (h k) (l' k) (h' k)) 1), .int .i64 ((fun k => joinLo (l k) (h k) (l' k) (h' k)) 2), .int .i64 ((fun k => joinHi (l k) (h k) (l' k) (h' k)) 2), .int .i64 ((fun k => joinLo (l k) (h k) (l' k) (h' k)) 3), .int .i64 ((fun k => joinHi (l k) (h k) (l' k) (h' k)) 3), .int .i64 ((fun k => joinLo (l k) (h k) (l' k) (h' k)) 4), .int .i64 ((fun k => joinHi (l k) (h k) (l' k) (h' k)) 4)]) (by simp [results, Try.results71, go_sem, e0, e1, e2, e3, e4, e5, e6, e7, e8, e9, e10]) rfl ⟨rfl, ?_⟩
  exact setAll_below (g := w.heap.size + 1 + 1) (by omega) [.bool true, .int .i64 ((fun k => joinLo (l k) (h k) (l' k) (h' k)) 0), .int .i64 ((fun k => joinHi (l k) (h k) (l' k) (h' k)) 0), .int .i64 ((fun k => joinLo (l k) (h k) (l' k) (h' k)) 1), .int .i64 ((fun k => joinHi (l k) (h k) (l' k) (h' k)) 1), .int .i64 ((fun k => joinLo (l k) (h k) (l' k) (h' k)) 2), .int .i64 ((fun k => joinHi (l k) (h k) (l' k) (h' k)) 2), .int .i64 ((fun k => joinLo (l k) (h k) (l' k) (h' k)) 3), .int .i64 ((fun k => joinHi (l k) (h k) (l' k) (h' k)) 3), .int .i64 ((fun k => joinLo (l k) (h k) (l' k) (h' k)) 4), .int .i64 ((fun k => joinHi (l k) (h k) (l' k) (h' k)) 4)] 0 _ bE
def jF (on on' : Bool) (l l' F : Nat → Int) : Nat → Int := match on, on' with
  | false, _ => l'
  | true, false => l
  | true, true => F
theorem joinM (on on' : Bool) (l h l' h' F G : Nat → Int) (hF : (fun k => joinLo (l k) (h k) (l' k) (h' k)) = F) (hG : (fun k => joinHi (l k) (h k) (l' k) (h' k)) = G) (w : World) :
    Calls Try.prog 71 #[.agg #[.bool on, .int .i64 (l 0), .int .i64 (h 0), .int .i64 (l 1), .int .i64 (h 1), .int .i64 (l 2), .int .i64 (h 2), .int .i64 (l 3), .int .i64 (h 3), .int .i64 (l 4), .int .i64 (h 4)], .agg #[.bool on', .int .i64 (l' 0), .int .i64 (h' 0), .int .i64 (l' 1), .int .i64 (h' 1), .int .i64 (l' 2), .int .i64 (h' 2), .int .i64 (l' 3), .int .i64 (h' 3), .int .i64 (l' 4), .int .i64 (h' 4)]] w fun e w' => e = .returned (.agg #[.bool (on || on'), .int .i64 (jF on on' l l' F 0), .int .i64 (jF on on' h h' G 0), .int .i64 (jF on on' l l' F 1), .int .i64 (jF on on' h h' G 1), .int .i64 (jF on on' l l' F 2), .int .i64 (jF on on' h h' G 2), .int .i64 (jF on on' l l' F 3), .int .i64 (jF on on' h h' G 3), .int .i64 (jF on on' l l' F 4), .int .i64 (jF on on' h h' G 4)]) ∧ Below w.heap.size w w' := by
  cases on
  · exact joinM_f on' l h l' h' w
  cases on'
  · exact joinM_tf l h l' h' w
  · exact joinM_tt l h l' h' F G hF hG w
/-- What the fold has behind k of two. -/
def stO (on on' : Bool) : Nat → Bool
  | 0 => false
  | 1 => on
  | _ => on || on'
def stL (on on' : Bool) (l l' F : Nat → Int) : Nat → Nat → Int
  | 0 => fun _ => 0
  | 1 => l
  | _ => jF on on' l l' F
theorem meth_join (v : Value) (w : World) : (method 202 49 v "loop.example/outwork/impl.join").run Try.prog w = .ok (71, v) w := by kernel_rfl
set_option maxRecDepth 10000 in
set_option maxHeartbeats 8000000 in
theorem joined2 (g c : Nat) (on on' : Bool) (l h l' h' F G : Nat → Int) (hF : (fun k => joinLo (l k) (h k) (l' k) (h' k)) = F) (hG : (fun k => joinHi (l k) (h k) (l' k) (h' k)) = G) (w : World)
    (hc : ∀ j v, [Value.bool on, .int .i64 (l 0), .int .i64 (h 0), .int .i64 (l 1), .int .i64 (h 1), .int .i64 (l 2), .int .i64 (h 2), .int .i64 (l 3), .int .i64 (h 3), .int .i64 (l 4), .int .i64 (h 4), .bool on', .int .i64 (l' 0), .int .i64 (h' 0), .int .i64 (l' 1), .int .i64 (h' 1), .int .i64 (l' 2), .int .i64 (h' 2), .int .i64 (l' 3), .int .i64 (h' 3), .int .i64 (l' 4), .int .i64 (h' 4)][j]? = some v → w.cell? ⟨g, j, none⟩ = some v) (hg : g < w.heap.size) :
    Calls Try.prog 23 #[.slice (some ⟨g, 0, none⟩) 2 c] w fun e w' => e = .returned (.agg #[.bool (on || on'), .int .i64 (jF on on' l l' F 0), .int .i64 (jF on on' h h' G 0), .int .i64 (jF on on' l l' F 1), .int .i64 (jF on on' h h' G 1), .int .i64 (jF on on' l l' F 2), .int .i64 (jF on on' h h' G 2), .int .i64 (jF on on' l l' F 3), .int .i64 (jF on on' h h' G 3), .int .i64 (jF on on' l l' F 4), .int .i64 (jF on on' h h' G 4)]) ∧ Below w.heap.size w w' := by
  have H : HeldL w ((w.heap.size + 1, [Value.bool false, .int .i64 0, .int .i64 0, .int .i64 0, .int .i64 0, .int .i64 0, .int .i64 0, .int .i64 0, .int .i64 0, .int .i64 0, .int .i64 0]) :: [(w.heap.size, [Value.bool false, .int .i64 0, .int .i64 0, .int .i64 0, .int .i64 0, .int .i64 0, .int .i64 0, .int .i64 0, .int .i64 0, .int .i64 0, .int .i64 0])]) ((w.alloc (.cells #[.bool false, .int .i64 0, .int .i64 0, .int .i64 0, .int .i64 0, .int .i64 0, .int .i64 0, .int .i64 0, .int .i64 0, .int .i64 0, .int .i64 0] 49)).alloc (.cells #[.bool false, .int .i64 0, .int .i64 0, .int .i64 0, .int .i64 0, .int .i64 0, .int .i64 0, .int .i64 0, .int .i64 0, .int .i64 0, .int .i64 0] 49)) := by
    have e1 : w.heap.size + 1 = (w.alloc (.cells #[.bool false, .int .i64 0, .int .i64 0, .int .i64 0, .int .i64 0, .int .i64 0, .int .i64 0, .int .i64 0, .int .i64 0, .int .i64 0, .int .i64 0] 49)).heap.size := by simp
    rw [e1]
    exact HeldL.newL (vs := [Value.bool false, .int .i64 0, .int .i64 0, .int .i64 0, .int .i64 0, .int .i64 0, .int .i64 0, .int .i64 0, .int .i64 0, .int .i64 0, .int .i64 0]) (HeldL.newL (vs := [Value.bool false, .int .i64 0, .int .i64 0, .int .i64 0, .int .i64 0, .int .i64 0, .int .i64 0, .int .i64 0, .int .i64 0, .int .i64 0, .int .i64 0]) (HeldL.nil w))
  have ne0 : ∀ e ∈ [(w.heap.size, [Value.bool false, .int .i64 0, .int .i64 0, .int .i64 0, .int .i64 0, .int .i64 0, .int .i64 0, .int .i64 0, .int .i64 0, .int .i64 0, .int .i64 0])], e.1 ≠ w.heap.size + 1 := by intro e he; simp at he; subst he; dsimp only; omega
  go_enter Try.func23, Try.ntmps23
  go_wp2_with fail
  go_loopw [8] (fun i wr => ∃ k : Nat, k ≤ 2 ∧ i = .int .i64 k ∧ HeldL w ((w.heap.size + 1, [Value.bool (stO on on' k), .int .i64 (stL on on' l l' F k 0), .int .i64 (stL on on' h h' G k 0), .int .i64 (stL on on' l l' F k 1), .int .i64 (stL on on' h h' G k 1), .int .i64 (stL on on' l l' F k 2), .int .i64 (stL on on' h h' G k 2), .int .i64 (stL on on' l l' F k 3), .int .i64 (stL on on' h h' G k 3), .int .i64 (stL on on' l l' F k 4), .int .i64 (stL on on' h h' G k 4)]) :: [(w.heap.size, [Value.bool false, .int .i64 0, .int .i64 0, .int .i64 0, .int .i64 0, .int .i64 0, .int .i64 0, .int .i64 0, .int .i64 0, .int .i64 0, .int .i64 0])]) wr) (fun i _ => 2 - (intOf i).toNat)
  case atStart => exact ⟨0, Nat.zero_le _, rfl, H⟩
  case round =>
    clear H
    obtain ⟨k, hk, rfl, H⟩ := hrel
    rcases (show k = 0 ∨ k = 1 ∨ k = 2 by omega) with rfl | rfl | rfl
    · have hB := H.below
      have d0 := (hB.cell (p := ⟨g, 0, none⟩) hg).trans (hc 0 _ rfl)
      have d1 := (hB.cell (p := ⟨g, 1, none⟩) hg).trans (hc 1 _ rfl)
      have d2 := (hB.cell (p := ⟨g, 2, none⟩) hg).trans (hc 2 _ rfl)
      have d3 := (hB.cell (p := ⟨g, 3, none⟩) hg).trans (hc 3 _ rfl)
      have d4 := (hB.cell (p := ⟨g, 4, none⟩) hg).trans (hc 4 _ rfl)
      have d5 := (hB.cell (p := ⟨g, 5, none⟩) hg).trans (hc 5 _ rfl)
      have d6 := (hB.cell (p := ⟨g, 6, none⟩) hg).trans (hc 6 _ rfl)
      have d7 := (hB.cell (p := ⟨g, 7, none⟩) hg).trans (hc 7 _ rfl)
      have d8 := (hB.cell (p := ⟨g, 8, none⟩) hg).trans (hc 8 _ rfl)
      have d9 := (hB.cell (p := ⟨g, 9, none⟩) hg).trans (hc 9 _ rfl)
      have d10 := (hB.cell (p := ⟨g, 10, none⟩) hg).trans (hc 10 _ rfl)
      have HA := H.alloc (.cells #[.bool on, .int .i64 (l 0), .int .i64 (h 0), .int .i64 (l 1), .int .i64 (h 1), .int .i64 (l 2), .int .i64 (h 2), .int .i64 (l 3), .int .i64 (h 3), .int .i64 (l 4), .int .i64 (h 4)] 49)
      have o0 := HA.cell List.mem_cons_self (i := 0) rfl
      have o1 := HA.cell List.mem_cons_self (i := 1) rfl
      have o2 := HA.cell List.mem_cons_self (i := 2) rfl
      have o3 := HA.cell List.mem_cons_self (i := 3) rfl
      have o4 := HA.cell List.mem_cons_self (i := 4) rfl
      have o5 := HA.cell List.mem_cons_self (i := 5) rfl
      have o6 := HA.cell List.mem_cons_self (i := 6) rfl
      have o7 := HA.cell List.mem_cons_self (i := 7) rfl
      have o8 := HA.cell List.mem_cons_self (i := 8) rfl
      have o9 := HA.cell List.mem_cons_self (i := 9) rfl
      have o10 := HA.cell List.mem_cons_self (i := 10) rfl
      dsimp only at o0 d0 o1 d1 o2 d2 o3 d3 o4 d4 o5 d5 o6 d6 o7 d7 o8 d8 o9 d9 o10 d10
      simp only [stO, stL] at o0 o1 o2 o3 o4 o5 o6 o7 o8 o9 o10
      clear hB H
      have q := meth_join
      go_wp2_with fail
      clear q
      refine (joinM_f _ (fun _ => 0) (fun _ => 0) l h _).mono ?_
      rintro e w2 ⟨rfl, hb⟩
      have HB := HA.next hb
      clear HA hb o0 d0 o1 d1 o2 d2 o3 d3 o4 d4 o5 d5 o6 d6 o7 d7 o8 d8 o9 d9 o10 d10
      have o0 := HB.cell List.mem_cons_self (i := 0) rfl
      have o1 := HB.cell List.mem_cons_self (i := 1) rfl
      have o2 := HB.cell List.mem_cons_self (i := 2) rfl
      have o3 := HB.cell List.mem_cons_self (i := 3) rfl
      have o4 := HB.cell List.mem_cons_self (i := 4) rfl
      have o5 := HB.cell List.mem_cons_self (i := 5) rfl
      have o6 := HB.cell List.mem_cons_self (i := 6) rfl
      have o7 := HB.cell List.mem_cons_self (i := 7) rfl
      have o8 := HB.cell List.mem_cons_self (i := 8) rfl
      have o9 := HB.cell List.mem_cons_self (i := 9) rfl
      have o10 := HB.cell List.mem_cons_self (i := 10) rfl
      have fr := HB.free _ List.mem_cons_self
      have HF := HeldL.putCells (by omega) ne0 [.bool on, .int .i64 (l 0), .int .i64 (h 0), .int .i64 (l 1), .int .i64 (h 1), .int .i64 (l 2), .int .i64 (h 2), .int .i64 (l 3), .int .i64 (h 3), .int .i64 (l 4), .int .i64 (h 4)] 0 [.bool (stO on on' 0), .int .i64 (stL on on' l l' F 0 0), .int .i64 (stL on on' h h' G 0 0), .int .i64 (stL on on' l l' F 0 1), .int .i64 (stL on on' h h' G 0 1), .int .i64 (stL on on' l l' F 0 2), .int .i64 (stL on on' h h' G 0 2), .int .i64 (stL on on' l l' F 0 3), .int .i64 (stL on on' h h' G 0 3), .int .i64 (stL on on' l l' F 0 4), .int .i64 (stL on on' h h' G 0 4)] w2 HB (by simp)
      simp only [putL, List.set_cons_succ, List.set_cons_zero, World.setCells, Nat.reduceAdd] at HF
      dsimp only at fr o0 o1 o2 o3 o4 o5 o6 o7 o8 o9 o10
      clear HB
      go_wp2_with fail
      go_roundw
      case rel => exact ⟨1, by omega, by go_num, HF⟩
      case measure => simp [intOf]
    · have hB := H.below
      have d0 := (hB.cell (p := ⟨g, 11, none⟩) hg).trans (hc 11 _ rfl)
      have d1 := (hB.cell (p := ⟨g, 12, none⟩) hg).trans (hc 12 _ rfl)
      have d2 := (hB.cell (p := ⟨g, 13, none⟩) hg).trans (hc 13 _ rfl)
      have d3 := (hB.cell (p := ⟨g, 14, none⟩) hg).trans (hc 14 _ rfl)
      have d4 := (hB.cell (p := ⟨g, 15, none⟩) hg).trans (hc 15 _ rfl)
      have d5 := (hB.cell (p := ⟨g, 16, none⟩) hg).trans (hc 16 _ rfl)
      have d6 := (hB.cell (p := ⟨g, 17, none⟩) hg).trans (hc 17 _ rfl)
      have d7 := (hB.cell (p := ⟨g, 18, none⟩) hg).trans (hc 18 _ rfl)
      have d8 := (hB.cell (p := ⟨g, 19, none⟩) hg).trans (hc 19 _ rfl)
      have d9 := (hB.cell (p := ⟨g, 20, none⟩) hg).trans (hc 20 _ rfl)
      have d10 := (hB.cell (p := ⟨g, 21, none⟩) hg).trans (hc 21 _ rfl)
      have HA := H.alloc (.cells #[.bool on', .int .i64 (l' 0), .int .i64 (h' 0), .int .i64 (l' 1), .int .i64 (h' 1), .int .i64 (l' 2), .int .i64 (h' 2), .int .i64 (l' 3), .int .i64 (h' 3), .int .i64 (l' 4), .int .i64 (h' 4)] 49)
      have o0 := HA.cell List.mem_cons_self (i := 0) rfl
      have o1 := HA.cell List.mem_cons_self (i := 1) rfl
      have o2 := HA.cell List.mem_cons_self (i := 2) rfl
      have o3 := HA.cell List.mem_cons_self (i := 3) rfl
      have o4 := HA.cell List.mem_cons_self (i := 4) rfl
      have o5 := HA.cell List.mem_cons_self (i := 5) rfl
      have o6 := HA.cell List.mem_cons_self (i := 6) rfl
      have o7 := HA.cell List.mem_cons_self (i := 7) rfl
      have o8 := HA.cell List.mem_cons_self (i := 8) rfl
      have o9 := HA.cell List.mem_cons_self (i := 9) rfl
      have o10 := HA.cell List.mem_cons_self (i := 10) rfl
      dsimp only at o0 d0 o1 d1 o2 d2 o3 d3 o4 d4 o5 d5 o6 d6 o7 d7 o8 d8 o9 d9 o10 d10
      simp only [stO, stL] at o0 o1 o2 o3 o4 o5 o6 o7 o8 o9 o10
      clear hB H
      have q := meth_join
      go_wp2_with fail
      clear q
      refine (joinM _ _ _ _ _ _ F G hF hG _).mono ?_
      rintro e w2 ⟨rfl, hb⟩
      have HB := HA.next hb
      clear HA hb o0 d0 o1 d1 o2 d2 o3 d3 o4 d4 o5 d5 o6 d6 o7 d7 o8 d8 o9 d9 o10 d10
      have o0 := HB.cell List.mem_cons_self (i := 0) rfl
      have o1 := HB.cell List.mem_cons_self (i := 1) rfl
      have o2 := HB.cell List.mem_cons_self (i := 2) rfl
      have o3 := HB.cell List.mem_cons_self (i := 3) rfl
      have o4 := HB.cell List.mem_cons_self (i := 4) rfl
      have o5 := HB.cell List.mem_cons_self (i := 5) rfl
      have o6 := HB.cell List.mem_cons_self (i := 6) rfl
      have o7 := HB.cell List.mem_cons_self (i := 7) rfl
      have o8 := HB.cell List.mem_cons_self (i := 8) rfl
      have o9 := HB.cell List.mem_cons_self (i := 9) rfl
      have o10 := HB.cell List.mem_cons_self (i := 10) rfl
      have fr := HB.free _ List.mem_cons_self
      have HF := HeldL.putCells (by omega) ne0 [.bool (on || on'), .int .i64 (jF on on' l l' F 0), .int .i64 (jF on on' h h' G 0), .int .i64 (jF on on' l l' F 1), .int .i64 (jF on on' h h' G 1), .int .i64 (jF on on' l l' F 2), .int .i64 (jF on on' h h' G 2), .int .i64 (jF on on' l l' F 3), .int .i64 (jF on on' h h' G 3), .int .i64 (jF on on' l l' F 4), .int .i64 (jF on on' h h' G 4)] 0 [.bool (stO on on' 1), .int .i64 (stL on on' l l' F 1 0), .int .i64 (stL on on' h h' G 1 0), .int .i64 (stL on on' l l' F 1 1), .int .i64 (stL on on' h h' G 1 1), .int .i64 (stL on on' l l' F 1 2), .int .i64 (stL on on' h h' G 1 2), .int .i64 (stL on on' l l' F 1 3), .int .i64 (stL on on' h h' G 1 3), .int .i64 (stL on on' l l' F 1 4), .int .i64 (stL on on' h h' G 1 4)] w2 HB (by simp)
      simp only [putL, List.set_cons_succ, List.set_cons_zero, World.setCells, Nat.reduceAdd] at HF
      dsimp only at fr o0 o1 o2 o3 o4 o5 o6 o7 o8 o9 o10
      clear HB
      go_wp2_with fail
      go_roundw
      case rel => exact ⟨2, by omega, by go_num, HF⟩
      case measure => simp [intOf]
    · have e2 : (stO on on' 2) = (on || on') := rfl
      have HX := H
      simp only [stO, stL] at HX
      have o0 := HX.cell List.mem_cons_self (i := 0) rfl
      have o1 := HX.cell List.mem_cons_self (i := 1) rfl
      have o2 := HX.cell List.mem_cons_self (i := 2) rfl
      have o3 := HX.cell List.mem_cons_self (i := 3) rfl
      have o4 := HX.cell List.mem_cons_self (i := 4) rfl
      have o5 := HX.cell List.mem_cons_self (i := 5) rfl
      have o6 := HX.cell List.mem_cons_self (i := 6) rfl
      have o7 := HX.cell List.mem_cons_self (i := 7) rfl
      have o8 := HX.cell List.mem_cons_self (i := 8) rfl
      have o9 := HX.cell List.mem_cons_self (i := 9) rfl
      have o10 := HX.cell List.mem_cons_self (i := 10) rfl
      have r0 := HX.cell (List.mem_cons_of_mem _ List.mem_cons_self) (i := 0) rfl
      have r1 := HX.cell (List.mem_cons_of_mem _ List.mem_cons_self) (i := 1) rfl
      have r2 := HX.cell (List.mem_cons_of_mem _ List.mem_cons_self) (i := 2) rfl
      have r3 := HX.cell (List.mem_cons_of_mem _ List.mem_cons_self) (i := 3) rfl
      have r4 := HX.cell (List.mem_cons_of_mem _ List.mem_cons_self) (i := 4) rfl
      have r5 := HX.cell (List.mem_cons_of_mem _ List.mem_cons_self) (i := 5) rfl
      have r6 := HX.cell (List.mem_cons_of_mem _ List.mem_cons_self) (i := 6) rfl
      have r7 := HX.cell (List.mem_cons_of_mem _ List.mem_cons_self) (i := 7) rfl
      have r8 := HX.cell (List.mem_cons_of_mem _ List.mem_cons_self) (i := 8) rfl
      have r9 := HX.cell (List.mem_cons_of_mem _ List.mem_cons_self) (i := 9) rfl
      have r10 := HX.cell (List.mem_cons_of_mem _ List.mem_cons_self) (i := 10) rfl
      have fr := HX.free _ (List.mem_cons_of_mem _ List.mem_cons_self)
      have bE := HX.below
      dsimp only at fr o0 r0 o1 r1 o2 r2 o3 r3 o4 r4 o5 r5 o6 r6 o7 r7 o8 r8 o9 r9 o10 r10
      obtain ⟨e0, e1, e2, e3, e4, e5, e6, e7, e8, e9, e10⟩ := own11c r0 r1 r2 r3 r4 r5 r6 r7 r8 r9 r10
      clear H HX
      go_wp2_with fail
      refine bodyPost_ret (v := .agg #[.bool (on || on'), .int .i64 (jF on on' l l' F 0), .int .i64 (jF on on' h h' G 0), .int .i64 (jF on on' l l' F 1), .int .i64 (jF on on' h h' G 1), .int .i64 (jF on on' l l' F 2), .int .i64 (jF on on' h h' G 2), .int .i64 (jF on on' l l' F 3), .int .i64 (jF on on' h h' G 3), .int .i64 (jF on on' l l' F 4), .int .i64 (jF on on' h h' G 4)]) (by simp [results, Try.results23, go_sem, e0, e1, e2, e3, e4, e5, e6, e7, e8, e9, e10]) rfl ⟨rfl, ?_⟩
      exact setAll_below (g := w.heap.size) (by omega) [.bool (on || on'), .int .i64 (jF on on' l l' F 0), .int .i64 (jF on on' h h' G 0), .int .i64 (jF on on' l l' F 1), .int .i64 (jF on on' h h' G 1), .int .i64 (jF on on' l l' F 2), .int .i64 (jF on on' h h' G 2), .int .i64 (jF on on' l l' F 3), .int .i64 (jF on on' h h' G 3), .int .i64 (jF on on' l l' F 4), .int .i64 (jF on on' h h' G 4)] 0 _ bE
end Go.Proofs.Ytiehokibfdaleaa
