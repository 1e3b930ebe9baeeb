/- Redexes stay when a name is bound and when bags are sorted; the name ahead is one of the names. -/
import Derived.Test.YtcbciaofajhklaaGreatDoorRedA
import Derived.Test.YtcbciaofajhklaaGreatDoorPureE
namespace Rt

theorem redNs_sum (l : List Term) : redNs l = (l.map redN).sum := by
  induction l with
  | nil => rfl
  | cons t l ih => rw [redNs, ih]; simp

theorem redNs_perm (l m : List Term) (h : m.Perm l) : redNs m = redNs l := by
  rw [redNs_sum, redNs_sum]
  exact (h.map redN).sum_nat

theorem isRed_app (t : Term) (l m : List Term) (t' : Term) (h : (∃ u, t = .lam u) ↔ ∃ u, t' = .lam u) : isRed (.app t' m) = isRed (.app t l) := by
  by_cases h1 : ∃ u, t = .lam u
  · obtain ⟨u', rfl⟩ := h.1 h1
    obtain ⟨u, rfl⟩ := h1
    rfl
  · have h2 : ¬ ∃ u, t' = .lam u := fun e => h1 (h.2 e)
    have a1 : isRed (.app t l) = false := by
      cases t with
      | lam u => exact absurd ⟨u, rfl⟩ h1
      | nm s => rfl
      | ix n => rfl
      | app t b => rfl
    have a2 : isRed (.app t' m) = false := by
      cases t' with
      | lam u => exact absurd ⟨u, rfl⟩ h2
      | nm s => rfl
      | ix n => rfl
      | app t b => rfl
    rw [a1, a2]

theorem lam_sort (t : Term) : (∃ u, t = .lam u) ↔ ∃ u, sort t = .lam u := by
  cases t <;> simp [sort]

mutual
theorem redN_sort : ∀ t : Term, redN (sort t) = redN t
  | .nm s => rfl
  | .ix n => rfl
  | .lam t => by rw [sort, redN, redN, redN_sort t]
  | .app t b => by rw [sort, redN, redN, redN_sort t, redNs_perm _ _ (sortBag_perm _), redNs_sorts b, isRed_app t b _ (sort t) (lam_sort t)]
theorem redNs_sorts : ∀ b : List Term, redNs (sorts b) = redNs b
  | [] => rfl
  | t :: l => by rw [sorts, redNs, redNs, redN_sort t, redNs_sorts l]
end

theorem lam_bind (a : B) (k : Nat) (t : Term) : (∃ u, t = .lam u) ↔ ∃ u, swp (lBind a) k t = .lam u := by
  cases t with
  | nm s => simp [swp, lBind]; split <;> simp
  | ix n => simp [swp, lBind]
  | lam t => simp [swp]
  | app t b => simp [swp]

mutual
theorem redN_bind (a : B) : ∀ (k : Nat) (t : Term), redN (swp (lBind a) k t) = redN t
  | k, .nm s => by
    rw [swp, lBind, redN]
    split <;> rfl
  | k, .ix n => by simp [swp, lBind]
  | k, .lam t => by rw [swp, redN, redN, redN_bind a (k + 1) t]
  | k, .app t b => by rw [swp, redN, redN, redN_bind a k t, redNs_bind a k b, isRed_app t b _ _ (lam_bind a k t)]
theorem redNs_bind (a : B) : ∀ (k : Nat) (b : List Term), redNs (swps (lBind a) k b) = redNs b
  | _, [] => rfl
  | k, t :: l => by rw [swps, redNs, redNs, redN_bind a k t, redNs_bind a k l]
end

/-- A term that is bound has as many redexes. -/
theorem redN_bound (a : B) (t : Term) : redN (sort (.lam (swp (lBind a) 0 t))) = redN t := by
  rw [redN_sort, redN, redN_bind]

theorem down_names : ∀ (t : Term) (s : B), down t = .nm s → s ∈ names t
  | .nm s, a, h => by
    have e : down (.nm s) = .nm s := by rw [down] <;> simp
    rw [e] at h
    injection h with h
    subst h
    simp [names]
  | .ix n, a, h => by
    have e : down (.ix n) = .ix n := by rw [down] <;> simp
    rw [e] at h
    cases h
  | .lam t, a, h => by
    rw [down] at h
    rw [names]; exact down_names t a h
  | .app t b, a, h => by
    rw [down] at h
    rw [names]; exact List.mem_append_left _ (down_names t a h)

theorem headOf_yes (t : Term) (h : (headOf t).2 = true) : redN t = 0 ∧ (headOf t).1 ∈ names t := by
  unfold headOf at h ⊢
  by_cases h0 : redN t = 0
  · rw [if_pos h0] at h ⊢
    refine ⟨h0, ?_⟩
    cases hd : down t with
    | nm s => rw [headAtom]; exact down_names t s hd
    | ix n => rw [hd] at h; simp [headAtom] at h
    | lam u => rw [hd] at h; simp [headAtom] at h
    | app u l => rw [hd] at h; simp [headAtom] at h
  · rw [if_neg h0] at h; simp at h

end Rt
