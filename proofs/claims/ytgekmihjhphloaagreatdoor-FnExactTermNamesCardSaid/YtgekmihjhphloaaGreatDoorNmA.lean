/- The names of a term in order. -/
import Derived.Test.YtgekmihjhphloaaGreatDoorBsB
import Derived.Test.YtgekmihjhphloaaGreatDoorSpecK
import Derived.Sort.KeysCollected
namespace Go.Proofs.YtgekmihjhphloaaGreatDoor
open Go.RowKit Rt

theorem ltB_lt : ∀ a b : B, ltB a b = true ↔ a < b
  | a, [] => by cases a <;> simp [ltB]
  | [], b :: bs => by simp [ltB]
  | a :: xs, b :: bs => by
    rw [ltB, List.cons_lt_cons_iff, ← ltB_lt xs bs]
    by_cases h1 : a < b
    · simp [h1]
    · by_cases h2 : b < a
      · have h3 : a ≠ b := by rintro rfl; exact absurd h2 h1
        simp [h1, h2, h3]
      · have h3 : a = b := UInt8.le_antisymm (UInt8.not_lt.1 h2) (UInt8.not_lt.1 h1)
        subst h3
        simp

/-- A text put where it comes. -/
def putN (s : B) : List B → List B
  | [] => [s]
  | x :: l => if ltB x s = true then x :: putN s l else s :: x :: l

def insN (s : B) (l : List B) : List B := if s ∈ l then l else putN s l

def AscN (l : List B) : Prop := l.Pairwise fun a b => ltB a b = true

theorem putN_at (s : B) : ∀ (l : List B) (j : Nat), j ≤ l.length → (∀ i, i < j → ∀ u, l[i]? = some u → ltB u s = true) → (j = l.length ∨ ∃ u, l[j]? = some u ∧ ltB u s = false) →
    putN s l = l.take j ++ s :: l.drop j
  | [], j, h1, _, _ => by
    have : j = 0 := by simpa using h1
    subst this; rfl
  | u :: l, 0, _, _, h3 => by
    rcases h3 with h3 | ⟨x, hx, h3⟩
    · simp at h3
    · simp at hx; subst hx
      simp [putN, h3]
  | u :: l, j + 1, h1, h2, h3 => by
    have h4 := h2 0 (by omega) u rfl
    rw [putN, if_pos h4, putN_at s l j (by simpa using h1) (fun i hi x hx => h2 (i + 1) (by omega) x (by simpa using hx)) (by simpa using h3)]
    simp

theorem putN_mem (s x : B) : ∀ l : List B, x ∈ putN s l ↔ x = s ∨ x ∈ l
  | [] => by simp [putN]
  | u :: l => by
    rw [putN]
    split
    · rw [List.mem_cons, putN_mem s x l, List.mem_cons]
      constructor
      · rintro (h | h | h)
        · exact .inr (.inl h)
        · exact .inl h
        · exact .inr (.inr h)
      · rintro (h | h | h)
        · exact .inr (.inl h)
        · exact .inl h
        · exact .inr (.inr h)
    · rw [List.mem_cons]

theorem putN_asc (s : B) : ∀ l : List B, AscN l → s ∉ l → AscN (putN s l)
  | [], _, _ => by simp [putN, AscN]
  | u :: l, h, hs => by
    obtain ⟨h1, h2⟩ := List.pairwise_cons.1 h
    have hne : u ≠ s := by rintro rfl; exact hs (List.mem_cons_self ..)
    rw [putN]
    split
    · rename_i hlt
      refine List.pairwise_cons.2 ⟨fun y hy => ?_, putN_asc s l h2 (fun hh => hs (List.mem_cons_of_mem _ hh))⟩
      rcases (putN_mem s y l).1 hy with rfl | hy
      · exact hlt
      · exact h1 y hy
    · rename_i hlt
      have hsu : ltB s u = true := by
        cases hc : ltB s u
        · exact absurd (ltB_total u s (by simpa using hlt) hc) hne
        · rfl
      refine List.pairwise_cons.2 ⟨fun y hy => ?_, h⟩
      rcases List.mem_cons.1 hy with rfl | hy
      · exact hsu
      · exact ltB_trans s u y hsu (h1 y hy)

theorem putN_len (s : B) : ∀ l : List B, (putN s l).length = l.length + 1
  | [] => rfl
  | u :: l => by
    rw [putN]
    split
    · simp [putN_len s l]
    · simp

/-- The names among the first k texts, in order. -/
def nmTo (xs : List B) (k : Nat) : List B := (xs.take k).foldl (fun l s => if isName s = true then insN s l else l) []

theorem nmTo_succ (xs : List B) (k : Nat) (s : B) (h : xs[k]? = some s) : nmTo xs (k + 1) = if isName s = true then insN s (nmTo xs k) else nmTo xs k := by
  unfold nmTo
  rw [List.take_add_one, h, List.foldl_append]; rfl

/-- The names of a term, in order. -/
def nmL (t : Term) : List B := nmTo (atoms t) (atoms t).length

theorem nm_fold : ∀ (xs l : List B), AscN l → AscN (xs.foldl (fun l s => if isName s = true then insN s l else l) l) ∧ ∀ x, x ∈ xs.foldl (fun l s => if isName s = true then insN s l else l) l ↔ x ∈ l ∨ (x ∈ xs ∧ isName x = true)
  | [], l, h => ⟨h, by simp⟩
  | s :: xs, l, h => by
    rw [List.foldl_cons]
    by_cases hn : isName s = true
    · rw [if_pos hn]
      have hA : AscN (insN s l) := by
        unfold insN
        split
        · exact h
        · exact putN_asc s l h (by assumption)
      have hm : ∀ x, x ∈ insN s l ↔ x = s ∨ x ∈ l := by
        intro x
        unfold insN
        split
        · constructor
          · exact .inr
          · rintro (rfl | h)
            · assumption
            · exact h
        · exact putN_mem s x l
      obtain ⟨h1, h2⟩ := nm_fold xs _ hA
      refine ⟨h1, fun x => ?_⟩
      rw [h2 x, hm x, List.mem_cons]
      constructor
      · rintro ((rfl | h) | h)
        · exact .inr ⟨.inl rfl, hn⟩
        · exact .inl h
        · exact .inr ⟨.inr h.1, h.2⟩
      · rintro (h | ⟨rfl | h, hx⟩)
        · exact .inl (.inr h)
        · exact .inl (.inl rfl)
        · exact .inr ⟨h, hx⟩
    · rw [if_neg hn]
      obtain ⟨h1, h2⟩ := nm_fold xs l h
      refine ⟨h1, fun x => ?_⟩
      rw [h2 x, List.mem_cons]
      constructor
      · rintro (h | h)
        · exact .inl h
        · exact .inr ⟨.inr h.1, h.2⟩
      · rintro (h | ⟨rfl | h, hx⟩)
        · exact .inl h
        · exact absurd hx hn
        · exact .inr ⟨h, hx⟩

theorem nmTo_mem (xs : List B) (k : Nat) (x : B) (h : x ∈ nmTo xs k) : isName x = true := by
  have := ((nm_fold (xs.take k) [] List.Pairwise.nil).2 x).1 h
  simp at this
  exact this.2

theorem nmTo_len (xs : List B) (k : Nat) : (nmTo xs k).length ≤ k := by
  induction k with
  | zero => simp [nmTo]
  | succ k ih =>
    cases h : xs[k]? with
    | none =>
      have : nmTo xs (k + 1) = nmTo xs k := by unfold nmTo; rw [List.take_add_one, h]; simp
      rw [this]; omega
    | some s =>
      rw [nmTo_succ xs k s h]
      split
      · unfold insN
        split
        · omega
        · rw [putN_len]; omega
      · omega

theorem nmL_asc (t : Term) : AscN (nmL t) := (nm_fold _ [] List.Pairwise.nil).1

theorem nmL_mem (j : Nat) (t : Term) (h : ok j t = true) (x : B) : x ∈ nmL t ↔ x ∈ names t := by
  rw [← names_atoms j t h, List.mem_filter]
  have := (nm_fold ((atoms t).take (atoms t).length) [] List.Pairwise.nil).2 x
  rw [List.take_length] at this
  unfold nmL nmTo
  rw [List.take_length, this]
  simp

theorem nmL_nodup (t : Term) : (nmL t).Nodup := by
  refine (nmL_asc t).imp fun {a b} h e => ?_
  subst e
  rw [ltB_irrefl] at h
  cases h

theorem nmL_sort (t : Term) (ss : List B) (h : ss.Perm (nmL t)) : ss.mergeSort Go.leB = nmL t := by
  rw [mergeSort_of_perm h]
  refine List.mergeSort_of_pairwise ((nmL_asc t).imp fun {a b} h => ?_)
  simp only [Go.leB, decide_eq_true_eq]
  exact List.le_of_lt ((ltB_lt a b).1 h)

theorem nmL_len (t : Term) : (nmL t).length ≤ size t := Nat.le_trans (nmTo_len _ _) (atoms_len t)

mutual
theorem atoms_short : ∀ (j : Nat) (t : Term), ok j t = true → ∀ s ∈ atoms t, s.length ≤ 3
  | j, .nm s, h, x, hx => by rw [ok] at h; simp [atoms] at hx; subst hx; exact name_len x h
  | j, .ix n, h, x, hx => by
    simp only [ok, decide_eq_true_eq] at h
    simp [atoms] at hx
    subst hx
    have hd : ∀ n, n < 100 → (dec n).length ≤ 3 := by decide +kernel
    exact hd n h.2
  | j, .lam t, h, x, hx => by rw [ok] at h; exact atoms_short (j + 1) t h x hx
  | j, .app t b, h, x, hx => by
    rw [ok, Bool.and_eq_true] at h
    rw [atoms, List.mem_append] at hx
    rcases hx with hx | hx
    · exact atoms_short j t h.1 x hx
    · exact atomsL_short j b h.2 x hx
theorem atomsL_short : ∀ (j : Nat) (b : List Term), oks j b = true → ∀ s ∈ atomsL b, s.length ≤ 3
  | j, [], _, x, hx => by simp [atomsL] at hx
  | j, t :: l, h, x, hx => by
    rw [oks, Bool.and_eq_true] at h
    rw [atomsL, List.mem_append] at hx
    rcases hx with hx | hx
    · exact atoms_short j t h.1 x hx
    · exact atomsL_short j l h.2 x hx
end

def bys (l : List B) : List ByteArray := l.map fun s => ⟨s.toArray⟩

theorem strv_bys (l : List B) : strv (bys l) = sv_ l := by simp [strv, bys, sv_]
theorem bys_len (l : List B) : (bys l).length = l.length := by simp [bys]

/-- What TermNames tells. -/
def namesRes (l : B) : List ByteArray × Bool := match termOf l with
  | some t => (bys (nmL t), true)
  | none => ([], false)

theorem namesRes_len (l : B) : (namesRes l).1.length ≤ 1000000 := by
  unfold namesRes
  cases h : termOf l with
  | none => simp
  | some t =>
    have h1 := (termOf_ok l t h).2
    have h2 := nmL_len t
    show (bys (nmL t)).length ≤ _
    rw [bys_len]
    omega

end Go.Proofs.YtgekmihjhphloaaGreatDoor
