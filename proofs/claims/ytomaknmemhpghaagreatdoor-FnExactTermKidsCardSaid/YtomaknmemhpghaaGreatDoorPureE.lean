/- The names of a term. -/
import Derived.Test.YtomaknmemhpghaaGreatDoorPureD
namespace Rt

mutual
/-- The names in a term, from the left. -/
def names : Term → List B
  | .nm s => [s]
  | .ix _ => []
  | .lam t => names t
  | .app t b => names t ++ namesL b
def namesL : List Term → List B
  | [] => []
  | t :: l => names t ++ namesL l
end

mutual
/-- All atoms of the terms of a term. -/
def atoms : Term → List B
  | .nm s => [s]
  | .ix n => [dec n]
  | .lam t => atoms t
  | .app t b => atoms t ++ atomsL b
def atomsL : List Term → List B
  | [] => []
  | t :: l => atoms t ++ atomsL l
end

theorem namesL_snoc : ∀ (l : List Term) (j : Nat) (t : Term), l[j]? = some t → namesL (l.take (j + 1)) = namesL (l.take j) ++ names t
  | [], j, t, h => by simp at h
  | u :: l, 0, t, h => by simp at h; subst h; simp [namesL]
  | u :: l, j + 1, t, h => by rw [List.take_succ_cons, List.take_succ_cons, namesL, namesL, namesL_snoc l j t (by simpa using h), List.append_assoc]

theorem atomsL_snoc : ∀ (l : List Term) (j : Nat) (t : Term), l[j]? = some t → atomsL (l.take (j + 1)) = atomsL (l.take j) ++ atoms t
  | [], j, t, h => by simp at h
  | u :: l, 0, t, h => by simp at h; subst h; simp [atomsL]
  | u :: l, j + 1, t, h => by rw [List.take_succ_cons, List.take_succ_cons, atomsL, atomsL, atomsL_snoc l j t (by simpa using h), List.append_assoc]

mutual
theorem names_len : ∀ t : Term, (names t).length ≤ size t
  | .nm s => by simp [names, size]
  | .ix n => by simp [names]
  | .lam t => by have := names_len t; simp only [names, size]; omega
  | .app t b => by have := names_len t; have := namesL_len b; simp only [names, size, List.length_append]; omega
theorem namesL_len : ∀ b : List Term, (namesL b).length ≤ sizes b
  | [] => by simp [namesL]
  | t :: l => by have := names_len t; have := namesL_len l; simp only [namesL, sizes, List.length_append]; omega
end

mutual
theorem atoms_len : ∀ t : Term, (atoms t).length ≤ size t
  | .nm s => by simp [atoms, size]
  | .ix n => by simp [atoms, size]
  | .lam t => by have := atoms_len t; simp only [atoms, size]; omega
  | .app t b => by have := atoms_len t; have := atomsL_len b; simp only [atoms, size, List.length_append]; omega
theorem atomsL_len : ∀ b : List Term, (atomsL b).length ≤ sizes b
  | [] => by simp [atomsL]
  | t :: l => by have := atoms_len t; have := atomsL_len l; simp only [atomsL, sizes, List.length_append]; omega
end

mutual
theorem names_ok : ∀ (j : Nat) (t : Term), ok j t = true → ∀ s ∈ names t, isName s = true
  | j, .nm s, h, x, hx => by rw [ok] at h; simp [names] at hx; subst hx; exact h
  | j, .ix n, h, x, hx => by simp [names] at hx
  | j, .lam t, h, x, hx => by rw [ok] at h; exact names_ok (j + 1) t h x hx
  | j, .app t b, h, x, hx => by
    rw [ok, Bool.and_eq_true] at h
    rw [names, List.mem_append] at hx
    rcases hx with hx | hx
    · exact names_ok j t h.1 x hx
    · exact namesL_ok j b h.2 x hx
theorem namesL_ok : ∀ (j : Nat) (b : List Term), oks j b = true → ∀ s ∈ namesL b, isName s = true
  | j, [], _, x, hx => by simp [namesL] at hx
  | j, t :: l, h, x, hx => by
    rw [oks, Bool.and_eq_true] at h
    rw [namesL, List.mem_append] at hx
    rcases hx with hx | hx
    · exact names_ok j t h.1 x hx
    · exact namesL_ok j l h.2 x hx
end

mutual
/-- The names are those atoms that are names. -/
theorem names_atoms : ∀ (j : Nat) (t : Term), ok j t = true → (atoms t).filter isName = names t
  | j, .nm s, h => by rw [ok] at h; simp [atoms, names, h]
  | j, .ix n, h => by simp only [ok, decide_eq_true_eq] at h; simp [atoms, names, dec_noName n h.2]
  | j, .lam t, h => by rw [ok] at h; rw [atoms, names]; exact names_atoms (j + 1) t h
  | j, .app t b, h => by rw [ok, Bool.and_eq_true] at h; rw [atoms, names, List.filter_append, names_atoms j t h.1, namesL_atoms j b h.2]
theorem namesL_atoms : ∀ (j : Nat) (b : List Term), oks j b = true → (atomsL b).filter isName = namesL b
  | j, [], _ => rfl
  | j, t :: l, h => by rw [oks, Bool.and_eq_true] at h; rw [atomsL, namesL, List.filter_append, names_atoms j t h.1, namesL_atoms j l h.2]
end

/-- A name is as often among the atoms as among the names. -/
theorem count_atoms (j : Nat) (t : Term) (h : ok j t = true) (a : B) (ha : isName a = true) : (atoms t).count a = (names t).count a := by
  rw [← names_atoms j t h, List.count_filter ha]

end Rt
