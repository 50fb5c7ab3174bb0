/- A region that draws its order, by an invariant: each operation is looked at once, whatever was done ahead of it; no order is counted out. No program in it. -/
import Derived.WalkKit
import Derived.Orders
namespace Go.Proofs.Ytiehokibfdaleaa
open Go.RowKit

def upd {α : Type} (f : Nat → α) (i : Nat) (v : α) : Nat → α := fun j => if j = i then v else f j
theorem upd_same {α : Type} (f : Nat → α) (i : Nat) (v : α) : upd f i v i = v := if_pos rfl
theorem upd_other {α : Type} (f : Nat → α) {i j : Nat} (v : α) (h : j ≠ i) : upd f i v j = f j := if_neg h
/-- What has been done, of the list that the model keeps. -/
def lis (l : Array Bool) : Nat → Bool := fun j => l.getD j false
/-- The operations that stand ahead of operation i. -/
def deps (ops : Array Oper) (i : Nat) : List Nat := match ops[i]? with
  | some o => (o.after.toList.filter fun e => Region.binds .any e).map (·.on)
  | none => []
def depsB (ops : Array Oper) : Bool := (List.range ops.size).all fun i => (deps ops i).all fun j => decide (j < i)

theorem lis_set {l : Array Bool} {i : Nat} (h : i < l.size) : lis (l.setIfInBounds i true) = upd (lis l) i true := by
  funext j
  unfold lis upd
  by_cases hj : j = i
  · subst hj
    simp [h]
  · rw [if_neg hj, getD_set_ne false (Ne.symm hj)]
theorem left_set {l : List Bool} : ∀ {i : Nat}, l[i]? = some false → (l.set i true).countP (fun b => !b) + 1 = l.countP (fun b => !b) := by
  induction l with
  | nil => intro i h; simp at h
  | cons x l ih =>
    intro i h
    cases i with
    | zero =>
      simp at h
      subst h
      simp
    | succ i =>
      have := ih (i := i) (by simpa using h)
      cases x <;> simp <;> omega
theorem all_of_none {l : List Bool} (h : l.countP (fun b => !b) = 0) : ∀ j (hj : j < l.length), l[j] = true := by
  intro j hj
  have := List.countP_eq_zero.1 h l[j] (List.getElem_mem hj)
  simpa using this

theorem wpAny_inv {P : Program} {ops : Array Oper} {Q : Exit → Act → World → Prop} (I : (Nat → Bool) → Act → World → Prop) (hdep : depsB ops = true)
    (hop : ∀ i L a w, i < ops.size → I L a w → L i = false → (∀ j ∈ deps ops i, L j = true) → wpOp P ops Q i (fun a' w' => I (upd L i true) a' w') a w)
    (hend : ∀ L a w, I L a w → (∀ j, j < ops.size → L j = true) → Q .normal a w) :
    ∀ (fuel : Nat) (listed : Array Bool) (a : Act) (w : World), listed.size = ops.size → listed.toList.countP (fun b => !b) ≤ fuel → I (lis listed) a w → wpAny P .any ops Q fuel listed a w := by
  have hd : ∀ i, i < ops.size → ∀ j ∈ deps ops i, j < i := by
    intro i hi j hj
    unfold depsB at hdep
    rw [List.all_eq_true] at hdep
    have := hdep i (by simp [hi])
    rw [List.all_eq_true] at this
    simpa using this j hj
  have rd : ∀ (listed : Array Bool) i, i ∈ Region.ready .any ops listed → i < ops.size ∧ listed.getD i true = false ∧ ∀ j ∈ deps ops i, lis listed j = true := by
    intro listed i hi
    obtain ⟨h0, o, ho, hall⟩ := mem_ready.1 hi
    refine ⟨(Array.getElem?_eq_some_iff.1 ho).1, h0, fun j hj => ?_⟩
    unfold deps at hj
    rw [ho] at hj
    simp only [List.mem_map, List.mem_filter] at hj
    obtain ⟨e, ⟨he, hb⟩, rfl⟩ := hj
    exact hall e (by simpa using he) hb
  have fin : ∀ (listed : Array Bool), listed.size = ops.size → Region.ready .any ops listed = [] → ∀ j, j < ops.size → lis listed j = true := by
    intro listed hs hr j
    induction j using Nat.strongRecOn with
    | _ j ih =>
      intro hj
      cases hl : lis listed j with
      | true => rfl
      | false =>
        exfalso
        have : j ∈ Region.ready .any ops listed := by
          rw [mem_ready]
          refine ⟨?_, ops[j], by simp [hj], fun e he hb => ?_⟩
          · unfold lis at hl
            have hj' : j < listed.size := by omega
            simp [hj'] at hl ⊢
            exact hl
          · have hm : e.on ∈ deps ops j := by
              unfold deps
              rw [Array.getElem?_eq_getElem hj]
              simp only [List.mem_map, List.mem_filter]
              exact ⟨e, ⟨by simpa using he, hb⟩, rfl⟩
            have hlt := hd j hj _ hm
            exact ih e.on hlt (by omega)
        rw [hr] at this
        cases this
  intro fuel
  induction fuel with
  | zero =>
    intro listed a w hs hc hI
    have hall := all_of_none (Nat.le_zero.1 hc)
    have hr : Region.ready .any ops listed = [] := by
      apply List.eq_nil_iff_forall_not_mem.2
      intro i hi
      obtain ⟨h1, h2, _⟩ := rd listed i hi
      have hi' : i < listed.size := by omega
      have := hall i (by simpa using hi')
      simp [hi'] at h2
      simp at this
      rw [this] at h2
      cases h2
    exact ⟨hr, hend _ _ _ hI (fin listed hs hr)⟩
  | succ fuel ih =>
    intro listed a w hs hc hI
    refine ⟨fun hr => hend _ _ _ hI (fin listed hs hr), fun i hi => ?_⟩
    obtain ⟨h1, h2, h3⟩ := rd listed i hi
    have hi' : i < listed.size := by omega
    have hf : lis listed i = false := by
      unfold lis
      simp [hi'] at h2 ⊢
      exact h2
    refine wpOp_mono (fun a' w' h' => ih (listed.setIfInBounds i true) a' w' (by simpa using hs) ?_ (by rw [lis_set hi']; exact h')) (hop i (lis listed) a w h1 hI hf h3)
    have := left_set (l := listed.toList) (i := i) (by simp [hi'] at h2 ⊢; exact h2)
    simp only [Array.toList_setIfInBounds]
    omega

/-- One operation, as the walk takes it. -/
theorem wpOp_of_list {P : Program} {ops : Array Oper} {Q : Exit → Act → World → Prop} {i : Nat} {o : Oper} {K : Act → World → Prop} {a : Act} {w : World} (hi : ops[i]? = some o)
    (h : wpList P ops (Exit.then K Q) [o] a w) : wpOp P ops Q i K a w := by
  unfold wpOp
  rw [hi]
  unfold wpList at h
  simp only
  split
  · rename_i hw
    rw [if_pos hw] at h
    rcases h with h | ⟨h1, h2⟩
    · left
      unfold Oper.wp at h ⊢
      generalize (execOp a.eval o).run P w = r at h ⊢
      cases r with
      | ok n w' =>
        cases n <;> simp only [Oper.upon] at h ⊢ <;>
          first
            | exact h
            | exact Calls.mono h (fun e w'' he => by cases e <;> exact he)
      | halt x w' => cases x <;> simp only [Oper.upon] at h ⊢ <;> exact h
    · right
      exact ⟨h1, h2⟩
  · rename_i hw
    rw [if_neg hw] at h
    exact h

/-- THE RULE. fr: the frame by the values of the region's operations; φ: what is known of each value, once it is there; S: what is known of the world, by what is done; T: how each operation may turn the world, which leaves φ of the others standing. -/
theorem region_inv {P : Program} {ops : Array Oper} {Q : Exit → Act → World → Prop} {id : Nat} {a : Act} {w : World} (fr : (Nat → Value) → Act) (φ : Nat → Value → World → Prop) (S : (Nat → Bool) → World → Prop) (T : Nat → World → World → Prop)
    (hm : P.follows .mixedOrders = true) (hdep : depsB ops = true) (v0 : Nat → Value) (ha : a = fr v0) (hS : S (fun _ => false) w.drew)
    (hst : ∀ i j v w w', j ≠ i → φ j v w → T i w w' → φ j v w')
    (hop : ∀ i L vals w, i < ops.size → (∀ j, L j = true → φ j (vals j) w) → S L w → L i = false → (∀ j ∈ deps ops i, L j = true) →
      wpOp P ops Q i (fun a' w' => ∃ v, a' = fr (upd vals i v) ∧ φ i v w' ∧ T i w w' ∧ S (upd L i true) w') (fr vals) w)
    (hend : ∀ L vals w, (∀ j, j < ops.size → L j = true) → (∀ j, j < ops.size → φ j (vals j) w) → S L w → Q .normal (fr vals) w) :
    (Code.region id ops true).wp P Q a w := by
  subst ha
  refine wp_region_any hm (wpAny_inv (fun L a w => ∃ vals, a = fr vals ∧ (∀ j, L j = true → φ j (vals j) w) ∧ S L w) hdep ?_ ?_ _ _ _ _ (by simp) ?_ ?_)
  · rintro i L a w hi ⟨vals, rfl, hφ, hS'⟩ hL hd
    refine wpOp_mono ?_ (hop i L vals w hi hφ hS' hL hd)
    rintro a' w' ⟨v, rfl, hv, hT, hS2⟩
    refine ⟨upd vals i v, rfl, fun j hj => ?_, hS2⟩
    by_cases hji : j = i
    · subst hji
      rw [upd_same]; exact hv
    · rw [upd_other _ _ hji] at hj ⊢
      exact hst _ _ _ _ _ hji (hφ j hj) hT
  · rintro L a w ⟨vals, rfl, hφ, hS'⟩ hall
    exact hend L vals w hall (fun j hj => hφ j (hall j hj)) hS'
  · exact Nat.le_trans List.countP_le_length (by simp)
  · refine ⟨v0, rfl, fun j hj => ?_, ?_⟩
    · exfalso
      unfold lis at hj
      by_cases h : j < ops.size <;> simp [h] at hj
    · have e : lis (Array.replicate ops.size false) = fun _ => false := by
        funext j
        unfold lis
        by_cases h : j < ops.size <;> simp [h]
      rw [e]; exact hS
/-- The slots that a region writes, by its operations. -/
def dsts (ops : Array Oper) : List (Nat × Nat) := (List.range ops.size).filterMap fun k => ((ops[k]?).bind (·.dst)).map fun d => (k, d)
/-- The frame, by the values of the region's operations. -/
def frOf : List (Nat × Nat) → Act → (Nat → Value) → Act
  | [], a, _ => a
  | (k, d) :: r, a, vals => frOf r (a.put (some d) (vals k)) vals
theorem put_put (a : Act) (d : Nat) (v u : Value) : (a.put (some d) v).put (some d) u = a.put (some d) u := by
  simp [Act.put]
theorem frOf_out {ds : List (Nat × Nat)} {d : Nat} (v : Value) (h : ∀ e ∈ ds, e.2 ≠ d) : ∀ (a : Act) (vals : Nat → Value), frOf ds (a.put (some d) v) vals = (frOf ds a vals).put (some d) v := by
  induction ds with
  | nil => intro a vals; rfl
  | cons e ds ih =>
    intro a vals
    obtain ⟨k, d'⟩ := e
    have hne : d' ≠ d := h (k, d') (by simp)
    simp only [frOf]
    rw [Act.put_comm a v (vals k) (x := some d) (y := some d') (fun x hx => by cases hx; simpa using hne)]
    exact ih (fun e he => h e (by simp [he])) _ _
theorem frOf_same {ds : List (Nat × Nat)} {i : Nat} {v : Value} (h : ∀ e ∈ ds, e.1 ≠ i) : ∀ (a : Act) (vals : Nat → Value), frOf ds a (upd vals i v) = frOf ds a vals := by
  induction ds with
  | nil => intro a vals; rfl
  | cons e ds ih =>
    intro a vals
    obtain ⟨k, d⟩ := e
    simp only [frOf]
    rw [upd_other _ _ (h (k, d) (by simp)), ih (fun e he => h e (by simp [he]))]
theorem frOf_put {ds : List (Nat × Nat)} (hk : (ds.map (·.1)).Nodup) (hd : (ds.map (·.2)).Nodup) {i d : Nat} (h : (i, d) ∈ ds) (v : Value) : ∀ (a : Act) (vals : Nat → Value), (frOf ds a vals).put (some d) v = frOf ds a (upd vals i v) := by
  induction ds with
  | nil => cases h
  | cons e ds ih =>
    intro a vals
    obtain ⟨k, d'⟩ := e
    simp only [List.map_cons, List.nodup_cons] at hk hd
    simp only [frOf]
    rcases List.mem_cons.1 h with he | he
    · cases he
      have h1 : ∀ e ∈ ds, e.2 ≠ d := fun e he hh => hd.1 (by rw [← hh]; exact List.mem_map_of_mem he)
      have h2 : ∀ e ∈ ds, e.1 ≠ i := fun e he hh => hk.1 (by rw [← hh]; exact List.mem_map_of_mem he)
      rw [upd_same, frOf_same h2, frOf_out _ h1, frOf_out _ h1, put_put]
    · have h1 : k ≠ i := fun hh => hk.1 (by rw [hh]; exact List.mem_map_of_mem (f := (·.1)) he)
      rw [upd_other _ _ h1]
      exact ih hk.2 hd.2 he _ _
theorem put_self (a : Act) (d : Nat) : a.put (some d) (a.tmps.getD d undef) = a := by
  cases a with
  | mk t df =>
    simp only [Act.put]
    congr 1
    apply Array.ext_getElem?
    intro j
    by_cases hj : d = j
    · subst hj
      by_cases h : d < t.size
      · simp [h]
      · simp [h]
    · simp [Array.getElem?_setIfInBounds_ne hj]
theorem frOf_self (ds : List (Nat × Nat)) (hk : (ds.map (·.1)).Nodup) (a : Act) : ∃ v0, a = frOf ds a v0 := by
  induction ds with
  | nil => exact ⟨fun _ => undef, rfl⟩
  | cons e ds ih =>
    obtain ⟨k, d⟩ := e
    simp only [List.map_cons, List.nodup_cons] at hk
    obtain ⟨v0, h0⟩ := ih hk.2
    refine ⟨upd v0 k (a.tmps.getD d undef), ?_⟩
    have h2 : ∀ e ∈ ds, e.1 ≠ k := fun e he hh => hk.1 (by rw [← hh]; exact List.mem_map_of_mem he)
    simp only [frOf]
    rw [upd_same, put_self, frOf_same h2]
    exact h0

/-- THE RULE, with the frame made by the region's own slots. -/
theorem region_inv2 {P : Program} {ops : Array Oper} {Q : Exit → Act → World → Prop} {id : Nat} {a : Act} {w : World} (ds : List (Nat × Nat)) (φ : Nat → Value → World → Prop) (S : (Nat → Bool) → World → Prop) (T : Nat → World → World → Prop)
    (hm : P.follows .mixedOrders = true) (hdep : depsB ops = true) (hds : dsts ops = ds) (hk : decide ((ds.map (·.1)).Nodup) = true) (hd : decide ((ds.map (·.2)).Nodup) = true) (hS : S (fun _ => false) w.drew)
    (hst : ∀ i j v w w', j ≠ i → φ j v w → T i w w' → φ j v w')
    (hop : ∀ i L vals w, i < ops.size → (∀ j, L j = true → φ j (vals j) w) → S L w → L i = false → (∀ j ∈ deps ops i, L j = true) →
      wpOp P ops Q i (fun a' w' => ∃ v, a' = (frOf ds a vals).put ((ops[i]?).bind (·.dst)) v ∧ φ i v w' ∧ T i w w' ∧ S (upd L i true) w') (frOf ds a vals) w)
    (hend : ∀ L vals w, (∀ j, j < ops.size → L j = true) → (∀ j, j < ops.size → φ j (vals j) w) → S L w → Q .normal (frOf ds a vals) w) :
    (Code.region id ops true).wp P Q a w := by
  have hk' := of_decide_eq_true hk
  have hd' := of_decide_eq_true hd
  obtain ⟨v0, h0⟩ := frOf_self ds hk' a
  refine region_inv (frOf ds a) φ S T hm hdep v0 h0 hS hst ?_ hend
  intro i L vals w hi hφ hS' hL hdp
  refine wpOp_mono ?_ (hop i L vals w hi hφ hS' hL hdp)
  rintro a' w' ⟨v, rfl, h1, h2, h3⟩
  refine ⟨v, ?_, h1, h2, h3⟩
  cases hdst : (ops[i]?).bind (·.dst) with
  | some d =>
    refine frOf_put hk' hd' ?_ v a vals
    rw [← hds]
    unfold dsts
    rw [List.mem_filterMap]
    exact ⟨i, by simp [hi], by simp [hdst]⟩
  | none =>
    have h2 : ∀ e ∈ ds, e.1 ≠ i := by
      intro e he hh
      rw [← hds] at he
      unfold dsts at he
      rw [List.mem_filterMap] at he
      obtain ⟨k, _, hk2⟩ := he
      simp only [Option.map_eq_some_iff] at hk2
      obtain ⟨d, hd2, rfl⟩ := hk2
      simp only at hh
      subst hh
      rw [hdst] at hd2
      cases hd2
    rw [frOf_same h2]
    rfl
theorem frOf_size (ds : List (Nat × Nat)) : ∀ (a : Act) (vals : Nat → Value), (frOf ds a vals).tmps.size = a.tmps.size ∧ (frOf ds a vals).defers = a.defers := by
  induction ds with
  | nil => intro a vals; exact ⟨rfl, rfl⟩
  | cons e ds ih =>
    intro a vals
    obtain ⟨k, d⟩ := e
    simp only [frOf]
    obtain ⟨h1, h2⟩ := ih (a.put (some d) (vals k)) vals
    exact ⟨by rw [h1]; simp [Act.put], by rw [h2]; rfl⟩
/-- What an operation left in its slot. -/
def slotOf (d : Option Nat) (a : Act) : Value := match d with
  | some d => a.tmps.getD d undef
  | none => undef
/-- One operation, by the value that it leaves and the world behind it. -/
def wpAt (P : Program) (ops : Array Oper) (Q : Exit → Act → World → Prop) (i : Nat) (R : Value → World → Prop) (a : Act) (w : World) : Prop :=
  match ops[i]? with
  | some o => wpList P ops (Exit.then (fun a' w' => a'.defers = a.defers ∧ R (slotOf o.dst a') w') Q) [o] a w
  | none => True
theorem wpAt_of {P : Program} {ops : Array Oper} {Q : Exit → Act → World → Prop} {i : Nat} {o : Oper} {d : Nat} {R : Value → World → Prop} {a : Act} {w : World} (hi : ops[i]? = some o) (hd : o.dst = some d)
    (h : wpList P ops (Exit.then (fun a' w' => a'.defers = a.defers ∧ R (a'.tmps.getD d undef) w') Q) [o] a w) : wpAt P ops Q i R a w := by
  unfold wpAt
  rw [hi]
  simp only [hd, slotOf]
  exact h
theorem wpAt_none {P : Program} {ops : Array Oper} {Q : Exit → Act → World → Prop} {i : Nat} {o : Oper} {R : Value → World → Prop} {a : Act} {w : World} (hi : ops[i]? = some o) (hd : o.dst = none)
    (h : wpList P ops (Exit.then (fun a' w' => a'.defers = a.defers ∧ R undef w') Q) [o] a w) : wpAt P ops Q i R a w := by
  unfold wpAt
  rw [hi]
  simp only [hd, slotOf]
  exact h
theorem wpAt_op {P : Program} {ops : Array Oper} {Q : Exit → Act → World → Prop} {i : Nat} {R : Value → World → Prop} {a : Act} {w : World} (hlt : ∀ d, (ops[i]?).bind (·.dst) = some d → d < a.tmps.size) (hi : i < ops.size)
    (h : wpAt P ops Q i R a w) : wpOp P ops Q i (fun a' w' => ∃ v, a' = a.put ((ops[i]?).bind (·.dst)) v ∧ R v w') a w := by
  obtain ⟨o, ho⟩ : ∃ o, ops[i]? = some o := ⟨ops[i], Array.getElem?_eq_getElem hi⟩
  unfold wpAt at h
  rw [ho] at h hlt
  simp only at h
  simp only [Option.bind_some] at hlt
  have h2 := wpOp_of_list ho h
  have val : ∀ v, slotOf o.dst (a.put o.dst v) = v ∨ o.dst = none := by
    intro v
    cases hd : o.dst with
    | none => exact .inr rfl
    | some d =>
      left
      have := hlt d hd
      simp [slotOf, Act.put, this]
  have fin : ∀ v w', (a.put o.dst v).defers = a.defers ∧ R (slotOf o.dst (a.put o.dst v)) w' → ∃ u, a.put o.dst v = a.put o.dst u ∧ R u w' := by
    rintro v w' ⟨_, hR⟩
    rcases val v with e | e
    · exact ⟨v, rfl, by rw [e] at hR; exact hR⟩
    · rw [e] at hR ⊢
      exact ⟨undef, rfl, hR⟩
  unfold wpOp at h2 ⊢
  rw [ho] at h2 ⊢
  simp only [Option.bind_some] at h2 ⊢
  split
  · rename_i hw
    rw [if_pos hw] at h2
    refine h2.imp ?_ id
    intro h3
    unfold Oper.wp at h3 ⊢
    generalize (execOp a.eval o).run P w = r at h3 ⊢
    cases r with
    | ok n w' =>
      cases n <;> simp only [Oper.upon] at h3 ⊢ <;>
        first
          | exact fin _ _ h3
          | (exfalso
             have h4 := h3.1
             cases hd : o.dst <;> simp [hd, Act.put] at h4)
          | exact Calls.mono h3 (fun e w'' he => by cases e <;> first | exact fin _ _ he | exact he)
          | exact Rows.mono h3 (fun _ _ he => fin _ _ he)
    | halt x w' => cases x <;> simp only [Oper.upon] at h3 ⊢ <;> exact h3
  · rename_i hw
    rw [if_neg hw] at h2
    exact fin _ _ h2

/-- THE RULE, by values: what an operation leaves in its slot, and the world behind it. -/
theorem region_inv3 {P : Program} {ops : Array Oper} {Q : Exit → Act → World → Prop} {id : Nat} {a : Act} {w : World} (ds : List (Nat × Nat)) (φ : Nat → Value → World → Prop) (S : (Nat → Bool) → World → Prop) (T : Nat → World → World → Prop)
    (hm : P.follows .mixedOrders = true) (hdep : depsB ops = true) (hds : dsts ops = ds) (hk : decide ((ds.map (·.1)).Nodup) = true) (hd : decide ((ds.map (·.2)).Nodup) = true) (hlt : (ds.all fun e => decide (e.2 < a.tmps.size)) = true) (hS : S (fun _ => false) w.drew)
    (hst : ∀ i j v w w', j ≠ i → φ j v w → T i w w' → φ j v w')
    (hop : ∀ i L vals w, i < ops.size → (∀ j, L j = true → φ j (vals j) w) → S L w → L i = false → (∀ j ∈ deps ops i, L j = true) →
      wpAt P ops Q i (fun v w' => φ i v w' ∧ T i w w' ∧ S (upd L i true) w') (frOf ds a vals) w)
    (hend : ∀ L vals w, (∀ j, j < ops.size → L j = true) → (∀ j, j < ops.size → φ j (vals j) w) → S L w → Q .normal (frOf ds a vals) w) :
    (Code.region id ops true).wp P Q a w := by
  refine region_inv2 ds φ S T hm hdep hds hk hd hS hst ?_ hend
  intro i L vals w' hi hφ hS' hL hdp
  refine wpAt_op (fun d hd' => ?_) hi (hop i L vals w' hi hφ hS' hL hdp)
  rw [(frOf_size ds a vals).1]
  rw [List.all_eq_true] at hlt
  have hm' : (i, d) ∈ ds := by
    rw [← hds]
    unfold dsts
    rw [List.mem_filterMap]
    exact ⟨i, by simp [hi], by simp [hd']⟩
  simpa using hlt (i, d) hm'
end Go.Proofs.Ytiehokibfdaleaa
