/- Lists of numbers that rise, plainly: what a procedure calls. No program in it. -/
import Derived.Lib.SlicesCompact
namespace Go.Proofs.Ytndedplmcjfgeaa

/-- A rising list with one number more; as it is, if that is there. -/
def putL (n : Int) : List Int → List Int
  | [] => [n]
  | x :: xs => if n < x then n :: x :: xs else if x = n then x :: xs else x :: putL n xs
theorem putL_mem {n y : Int} : ∀ {l : List Int}, y ∈ putL n l ↔ y = n ∨ y ∈ l
  | [] => by simp [putL]
  | x :: xs => by
    unfold putL
    split
    · simp
    · split
      · rename_i h; subst h; simp
      · simp only [List.mem_cons, putL_mem (l := xs)]
        constructor
        · rintro (h | h | h) <;> simp [h]
        · rintro (h | h | h) <;> simp [h]
/-- It rises. -/
def Rise (l : List Int) : Prop := l.Pairwise (· < ·)
theorem putL_rise {n : Int} : ∀ {l : List Int}, Rise l → Rise (putL n l)
  | [], _ => by simp [putL, Rise]
  | x :: xs, h => by
    have h' := h
    unfold Rise at h
    rw [List.pairwise_cons] at h
    unfold putL
    split
    · rename_i hx
      refine List.pairwise_cons.2 ⟨fun y hy => ?_, h'⟩
      rcases List.mem_cons.1 hy with rfl | hy
      · exact hx
      · have := h.1 y hy; omega
    · split
      · exact h'
      · refine List.pairwise_cons.2 ⟨fun y hy => ?_, putL_rise h.2⟩
        rcases putL_mem.1 hy with rfl | hy
        · omega
        · exact h.1 y hy
theorem putL_len (n : Int) : ∀ l : List Int, (putL n l).length ≤ l.length + 1
  | [] => by simp [putL]
  | x :: xs => by
    unfold putL
    split
    · simp
    · split
      · simp
      · have := putL_len n xs; simp; omega
/-- Two rising lists with the same members are the same. -/
theorem rise_eq : ∀ {l k : List Int}, Rise l → Rise k → (∀ x, x ∈ l ↔ x ∈ k) → l = k
  | [], [], _, _, _ => rfl
  | [], y :: ys, _, _, h => by have := (h y).2 (by simp); simp at this
  | x :: xs, [], _, _, h => by have := (h x).1 (by simp); simp at this
  | x :: xs, y :: ys, h1, h2, h => by
    have a := List.pairwise_cons.1 h1
    have b := List.pairwise_cons.1 h2
    have e : x = y := by
      rcases List.mem_cons.1 ((h x).1 (by simp)) with e | e
      · exact e
      · rcases List.mem_cons.1 ((h y).2 (by simp)) with e' | e'
        · exact e'.symm
        · have := a.1 y e'; have := b.1 x e; omega
    subst e
    refine congrArg (x :: ·) (rise_eq a.2 b.2 fun z => ?_)
    have hz := h z
    simp only [List.mem_cons] at hz
    constructor
    · intro m
      rcases hz.1 (.inr m) with e | e
      · subst e; have := a.1 z m; omega
      · exact e
    · intro m
      rcases hz.2 (.inr m) with e | e
      · subst e; have := b.1 z m; omega
      · exact e
theorem rise_len {m : Nat} : ∀ {l : List Int} {lo : Int}, Rise l → (∀ x ∈ l, lo ≤ x ∧ x < lo + m) → l.length ≤ m
  | [], _, _, _ => by simp
  | x :: xs, lo, h, hb => by
    have a := List.pairwise_cons.1 h
    have hx := hb x (by simp)
    obtain ⟨m', rfl⟩ : ∃ m', m = m' + 1 := ⟨m - 1, by omega⟩
    have := rise_len (m := m') (l := xs) (lo := lo + 1) a.2 (fun y hy => by
      have h1 := a.1 y hy
      have h2 := (hb y (by simp [hy])).2
      refine ⟨by omega, ?_⟩
      rw [Int.natCast_add] at h2
      omega)
    simp; omega

/-- What the first j steps call, rising. -/
def callsTo (c : Nat → Nat → Int) : Nat → List Int
  | 0 => []
  | j + 1 => if c j 0 = 10 then putL (c j 7) (callsTo c j) else callsTo c j
/-- What the first j steps call, as it stands there. -/
def tosTo (c : Nat → Nat → Int) : Nat → List Int
  | 0 => []
  | j + 1 => if c j 0 = 10 then tosTo c j ++ [c j 7] else tosTo c j
theorem callsTo_mem {c : Nat → Nat → Int} {x : Int} : ∀ {n : Nat}, x ∈ callsTo c n ↔ ∃ j, j < n ∧ c j 0 = 10 ∧ c j 7 = x
  | 0 => by simp [callsTo]
  | n + 1 => by
    unfold callsTo
    constructor
    · intro h
      split at h
      · rcases putL_mem.1 h with rfl | h
        · exact ⟨n, by omega, by assumption, rfl⟩
        · obtain ⟨j, h1, h2⟩ := callsTo_mem.1 h
          exact ⟨j, by omega, h2⟩
      · obtain ⟨j, h1, h2⟩ := callsTo_mem.1 h
        exact ⟨j, by omega, h2⟩
    · rintro ⟨j, h1, h2, h3⟩
      by_cases hj : j = n
      · subst hj
        rw [if_pos h2]
        exact putL_mem.2 (.inl h3.symm)
      · have : x ∈ callsTo c n := callsTo_mem.2 ⟨j, by omega, h2, h3⟩
        split
        · exact putL_mem.2 (.inr this)
        · exact this
theorem tosTo_mem {c : Nat → Nat → Int} {x : Int} : ∀ {n : Nat}, x ∈ tosTo c n ↔ ∃ j, j < n ∧ c j 0 = 10 ∧ c j 7 = x
  | 0 => by simp [tosTo]
  | n + 1 => by
    unfold tosTo
    constructor
    · intro h
      split at h
      · rcases List.mem_append.1 h with h | h
        · obtain ⟨j, h1, h2⟩ := tosTo_mem.1 h
          exact ⟨j, by omega, h2⟩
        · exact ⟨n, by omega, by assumption, by have e := List.mem_singleton.1 h; exact e.symm⟩
      · obtain ⟨j, h1, h2⟩ := tosTo_mem.1 h
        exact ⟨j, by omega, h2⟩
    · rintro ⟨j, h1, h2, h3⟩
      by_cases hj : j = n
      · subst hj
        rw [if_pos h2]
        simp [h3]
      · have : x ∈ tosTo c n := tosTo_mem.2 ⟨j, by omega, h2, h3⟩
        split
        · simp [this]
        · exact this
theorem callsTo_rise (c : Nat → Nat → Int) : ∀ n, Rise (callsTo c n)
  | 0 => by simp [callsTo, Rise]
  | n + 1 => by
    unfold callsTo
    split
    · exact putL_rise (callsTo_rise c n)
    · exact callsTo_rise c n
theorem callsTo_len (c : Nat → Nat → Int) : ∀ n, (callsTo c n).length ≤ n
  | 0 => by simp [callsTo]
  | n + 1 => by
    unfold callsTo
    split
    · have := putL_len (c n 7) (callsTo c n); have := callsTo_len c n; omega
    · have := callsTo_len c n; omega
theorem tosTo_len (c : Nat → Nat → Int) : ∀ n, (tosTo c n).length ≤ n
  | 0 => by simp [tosTo]
  | n + 1 => by
    unfold tosTo
    split
    · have := tosTo_len c n; simp; omega
    · have := tosTo_len c n; omega

/-- What compacting a sorted list leaves rises, and has the same members. -/
theorem compact_up {d : Array Int} (hs : ∀ i j, i ≤ j → j < d.size → d[i]! ≤ d[j]!) : ∀ m, m ≤ d.size → Rise (Go.Lib.compactUpTo d m) ∧ ∀ x, x ∈ Go.Lib.compactUpTo d m ↔ ∃ j, j < m ∧ d[j]! = x
  | 0, _ => by simp [Go.Lib.compactUpTo, Rise]
  | m + 1, hm => by
    obtain ⟨h1, h2⟩ := compact_up hs m (by omega)
    rw [Go.Lib.compactUpTo_succ]
    by_cases hk : Go.Lib.keeps d m = true
    · rw [if_pos hk]
      refine ⟨List.pairwise_append.2 ⟨h1, by simp, fun x hx y hy => ?_⟩, fun x => ?_⟩
      · obtain ⟨j, hj, rfl⟩ := (h2 x).1 hx
        have hy' : y = d[m]! := by simpa using hy
        subst hy'
        have hne : d[m]! ≠ d[m - 1]! := by
          unfold Go.Lib.keeps at hk
          rcases of_decide_eq_true hk with h | h
          · omega
          · exact h
        have ha := hs j (m - 1) (by omega) (by omega)
        have hb := hs (m - 1) m (by omega) (by omega)
        show d[j]! < d[m]!
        omega
      · rw [List.mem_append, h2]
        constructor
        · rintro (⟨j, hj, h⟩ | h)
          · exact ⟨j, by omega, h⟩
          · exact ⟨m, by omega, by have e := List.mem_singleton.1 h; exact e.symm⟩
        · rintro ⟨j, hj, h⟩
          by_cases e : j = m
          · subst e; exact .inr (by simp [h])
          · exact .inl ⟨j, by omega, h⟩
    · rw [if_neg hk, List.append_nil]
      refine ⟨h1, fun x => ?_⟩
      rw [h2]
      have hq : 0 < m ∧ d[m]! = d[m - 1]! := by
        unfold Go.Lib.keeps at hk
        have := mt decide_eq_true hk
        constructor
        · apply Nat.pos_of_ne_zero; intro h; exact this (.inl h)
        · apply Decidable.byContradiction; intro h; exact this (.inr h)
      constructor
      · rintro ⟨j, hj, h⟩; exact ⟨j, by omega, h⟩
      · rintro ⟨j, hj, h⟩
        by_cases e : j = m
        · subst e; exact ⟨j - 1, by omega, by rw [← hq.2]; exact h⟩
        · exact ⟨j, by omega, h⟩
/-- Sorted and compacted: rising, with the same members. -/
def onceL (l : List Int) : List Int := Go.Lib.compact (l.mergeSort fun x y => decide (x ≤ y))
theorem onceL_spec (l : List Int) : Rise (onceL l) ∧ ∀ x, x ∈ onceL l ↔ x ∈ l := by
  have hp : (l.mergeSort fun x y => decide (x ≤ y)).Pairwise (fun x y => decide (x ≤ y) = true) := List.pairwise_mergeSort (fun a b c h1 h2 => by simp at *; omega) (fun a b => by simp; omega) l
  have hm : ∀ x, x ∈ l.mergeSort (fun x y => decide (x ≤ y)) ↔ x ∈ l := fun x => List.mem_mergeSort
  unfold onceL
  generalize l.mergeSort (fun x y => decide (x ≤ y)) = k at hp hm
  have hs : ∀ i j, i ≤ j → j < k.toArray.size → k.toArray[i]! ≤ k.toArray[j]! := by
    intro i j hij hj
    have hj' : j < k.length := by simpa using hj
    rw [getElem!_pos _ i (by simpa using (show i < k.length by omega)), getElem!_pos _ j (by simpa using hj')]
    by_cases e : i = j
    · subst e; exact Int.le_refl _
    · have := List.pairwise_iff_getElem.1 hp i j (by omega) hj' (by omega)
      simpa using this
  obtain ⟨h1, h2⟩ := compact_up hs k.length (by simp)
  refine ⟨h1, fun x => ?_⟩
  rw [← hm]
  refine (h2 x).trans ?_
  constructor
  · rintro ⟨j, hj, rfl⟩
    rw [getElem!_pos _ j (by simpa using hj)]
    simp
  · intro hx
    obtain ⟨j, hj, rfl⟩ := List.getElem_of_mem hx
    exact ⟨j, hj, by rw [getElem!_pos _ j (by simpa using hj)]; simp⟩
theorem onceL_tos (c : Nat → Nat → Int) (n : Nat) : onceL (tosTo c n) = callsTo c n :=
  rise_eq (onceL_spec _).1 (callsTo_rise c n) fun x => ((onceL_spec _).2 x).trans (tosTo_mem.trans callsTo_mem.symm)
end Go.Proofs.Ytndedplmcjfgeaa
