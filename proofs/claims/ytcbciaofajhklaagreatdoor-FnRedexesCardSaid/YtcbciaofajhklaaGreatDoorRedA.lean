/- What is said of redexes: how many a term has, its parts in the order of its text, the name ahead. -/
import Derived.Test.YtcbciaofajhklaaGreatDoorPure
namespace Rt

/-- A term is a redex. -/
def isRed : Term → Bool
  | .app (.lam _) _ => true
  | _ => false

mutual
/-- The number of redexes. -/
def redN : Term → Nat
  | .nm _ => 0
  | .ix _ => 0
  | .lam t => redN t
  | .app t l => (if isRed (.app t l) then 1 else 0) + redN t + redNs l
def redNs : List Term → Nat
  | [] => 0
  | t :: l => redN t + redNs l
end

mutual
/-- All parts, in the order in which they begin in the text. -/
def subs : Term → List Term
  | .nm s => [.nm s]
  | .ix n => [.ix n]
  | .lam t => .lam t :: subs t
  | .app t l => .app t l :: (subs t ++ subsL l)
def subsL : List Term → List Term
  | [] => []
  | t :: l => subs t ++ subsL l
end

mutual
theorem subs_red : ∀ t : Term, ((subs t).filter isRed).length = redN t
  | .nm s => by simp [subs, redN, isRed]
  | .ix n => by simp [subs, redN, isRed]
  | .lam t => by
    have := subs_red t
    rw [subs, redN, List.filter_cons_of_neg (by simp [isRed]), this]
  | .app t l => by
    have h1 := subs_red t
    have h2 := subsL_red l
    rw [subs, redN, List.filter_cons]
    split
    · simp only [List.length_cons, List.filter_append, List.length_append]; omega
    · simp only [List.filter_append, List.length_append]; omega
theorem subsL_red : ∀ l : List Term, ((subsL l).filter isRed).length = redNs l
  | [] => by simp [subsL, redNs]
  | t :: l => by
    have h1 := subs_red t
    have h2 := subsL_red l
    rw [subsL, redNs, List.filter_append, List.length_append]; omega
end

mutual
theorem subs_size : ∀ t : Term, (subs t).length = size t
  | .nm s => by simp [subs, size]
  | .ix n => by simp [subs, size]
  | .lam t => by
    have := subs_size t
    rw [subs, size, List.length_cons]; omega
  | .app t l => by
    have h1 := subs_size t
    have h2 := subsL_size l
    rw [subs, size, List.length_cons, List.length_append]; omega
theorem subsL_size : ∀ l : List Term, (subsL l).length = sizes l
  | [] => by simp [subsL, sizes]
  | t :: l => by
    have h1 := subs_size t
    have h2 := subsL_size l
    rw [subsL, sizes, List.length_append]; omega
end

mutual
theorem redN_le : ∀ t : Term, redN t ≤ size t
  | .nm s => by simp [redN]
  | .ix n => by simp [redN]
  | .lam t => by
    have := redN_le t
    rw [redN, size]; omega
  | .app t l => by
    have h1 := redN_le t
    have h2 := redNs_le l
    rw [redN, size]; split <;> omega
theorem redNs_le : ∀ l : List Term, redNs l ≤ sizes l
  | [] => by simp [redNs]
  | t :: l => by
    have h1 := redN_le t
    have h2 := redNs_le l
    rw [redNs, sizes]; omega
end

theorem redNs_take : ∀ (l : List Term) (k : Nat) (t : Term), l[k]? = some t → redNs (l.take (k + 1)) = redNs (l.take k) + redN t
  | [], k, t, h => by simp at h
  | u :: l, 0, t, h => by
    simp at h; subst h
    simp [redNs]
  | u :: l, k + 1, t, h => by
    have := redNs_take l k t (by simpa using h)
    rw [List.take_succ_cons, redNs, this, List.take_succ_cons, redNs]
    omega

theorem redNs_take_le (l : List Term) (k : Nat) : redNs (l.take k) ≤ redNs l := by
  induction l generalizing k with
  | nil => simp [redNs]
  | cons u l ih =>
    cases k with
    | zero => simp [redNs]
    | succ k => rw [List.take_succ_cons, redNs, redNs]; have := ih k; omega

theorem subsL_take : ∀ (l : List Term) (k : Nat) (t : Term), l[k]? = some t → subsL (l.take (k + 1)) = subsL (l.take k) ++ subs t
  | [], k, t, h => by simp at h
  | u :: l, 0, t, h => by
    simp at h; subst h
    simp [subsL]
  | u :: l, k + 1, t, h => by
    have := subsL_take l k t (by simpa using h)
    rw [List.take_succ_cons, subsL, this, List.take_succ_cons, subsL, List.append_assoc]

/-- What is behind all lam. -/
def unlam : Term → Term
  | .lam t => unlam t
  | t => t

/-- What is the first part of all app. -/
def unapp : Term → Term
  | .app t _ => unapp t
  | t => t

/-- What is ahead of all. -/
def down : Term → Term
  | .lam t => down t
  | .app t _ => down t
  | t => t

theorem down_unapp : ∀ t : Term, redN t = 0 → (∀ u, t ≠ .lam u) → down t = unapp t
  | .nm s, _, _ => by rw [down, unapp] <;> simp
  | .ix n, _, _ => by rw [down, unapp] <;> simp
  | .lam t, _, h => absurd rfl (h t)
  | .app t l, h, _ => by
    rw [redN] at h
    rw [down, unapp]
    refine down_unapp t (by omega) ?_
    rintro u rfl
    simp [isRed] at h

theorem down_normal : ∀ t : Term, redN t = 0 → down t = unapp (unlam t)
  | .nm s, _ => by rw [down, unlam, unapp] <;> simp
  | .ix n, _ => by rw [down, unlam, unapp] <;> simp
  | .lam t, h => by
    rw [redN] at h
    rw [down, unlam]
    exact down_normal t h
  | .app t l, h => by
    rw [down_unapp _ h (by simp), unlam]; simp

theorem nm_len (s : B) (h : isName s = true) : s.length ≤ 3 := by
  cases s with
  | nil => simp
  | cons c r =>
    simp only [isName, Bool.and_eq_true, decide_eq_true_eq] at h
    simp; omega

/-- What HeadName tells of what is ahead of all. -/
def headAtom : Term → B × Bool
  | .nm s => (s, true)
  | _ => ([], false)

/-- What HeadName tells. -/
def headOf (t : Term) : B × Bool := if redN t = 0 then headAtom (down t) else ([], false)

end Rt
