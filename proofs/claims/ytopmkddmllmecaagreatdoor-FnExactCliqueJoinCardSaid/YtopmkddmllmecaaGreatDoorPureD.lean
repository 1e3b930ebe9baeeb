/- Leaves that are replaced; texts that are read again; what is sorted stays so. -/
import Derived.Test.YtopmkddmllmecaaGreatDoorPure
namespace Rt

mutual
/-- A term with its leaves replaced, each by what L makes of it under so many lam. -/
def swp (L : Nat → Term → Term) : Nat → Term → Term
  | k, .nm s => L k (.nm s)
  | k, .ix n => L k (.ix n)
  | k, .lam t => .lam (swp L (k + 1) t)
  | k, .app t b => .app (swp L k t) (swps L k b)
def swps (L : Nat → Term → Term) : Nat → List Term → List Term
  | _, [] => []
  | k, t :: l => swp L k t :: swps L k l
end

theorem swps_map (L : Nat → Term → Term) (k : Nat) : ∀ l, swps L k l = l.map (swp L k)
  | [] => rfl
  | t :: l => by rw [swps, swps_map L k l]; rfl

theorem swps_snoc (L : Nat → Term → Term) (k : Nat) (l : List Term) (j : Nat) (t : Term) (h : l[j]? = some t) : swps L k (l.take (j + 1)) = swps L k (l.take j) ++ [swp L k t] := by
  rw [swps_map, swps_map, List.take_add_one, h]; simp

theorem swps_length (L : Nat → Term → Term) (k : Nat) (l : List Term) : (swps L k l).length = l.length := by rw [swps_map]; simp

/-- What a leaf's function keeps. -/
structure LeafOk (L : Nat → Term → Term) (a b : Nat) : Prop where
  nm : ∀ k s, k < 100 → isName s = true → size (L k (.nm s)) = 1 ∧ ok (k + b) (L k (.nm s)) = true
  ix : ∀ k n, k < 100 → n < k + a → n < 100 → size (L k (.ix n)) = 1 ∧ ok (k + b) (L k (.ix n)) = true

mutual
theorem swp_ok (L : Nat → Term → Term) (a b : Nat) (h : LeafOk L a b) : ∀ (t : Term) (k : Nat), k + size t ≤ 100 → ok (k + a) t = true → size (swp L k t) = size t ∧ ok (k + b) (swp L k t) = true
  | .nm s, k, hk, ho => by rw [size] at hk; rw [ok] at ho; rw [swp, size]; exact h.nm k s (by omega) ho
  | .ix n, k, hk, ho => by rw [size] at hk; simp only [ok, decide_eq_true_eq] at ho; rw [swp, size]; exact h.ix k n (by omega) ho.1 ho.2
  | .lam t, k, hk, ho => by
    rw [size] at hk; rw [ok] at ho
    have := swp_ok L a b h t (k + 1) (by omega) (by rw [show k + 1 + a = k + a + 1 by omega]; exact ho)
    rw [swp, size, size, ok, this.1, show k + b + 1 = k + 1 + b by omega]
    exact ⟨rfl, this.2⟩
  | .app t l, k, hk, ho => by
    rw [size] at hk; rw [ok, Bool.and_eq_true] at ho
    have h1 := swp_ok L a b h t k (by omega) ho.1
    have h2 := swps_ok L a b h l k (by omega) ho.2
    rw [swp, size, size, ok, h1.1, h1.2, h2.1, h2.2]
    exact ⟨rfl, rfl⟩
theorem swps_ok (L : Nat → Term → Term) (a b : Nat) (h : LeafOk L a b) : ∀ (l : List Term) (k : Nat), k + sizes l ≤ 100 → oks (k + a) l = true → sizes (swps L k l) = sizes l ∧ oks (k + b) (swps L k l) = true
  | [], k, _, _ => ⟨rfl, rfl⟩
  | t :: l, k, hk, ho => by
    rw [sizes] at hk; rw [oks, Bool.and_eq_true] at ho
    have h1 := swp_ok L a b h t k (by omega) ho.1
    have h2 := swps_ok L a b h l k (by omega) ho.2
    rw [swps, sizes, sizes, oks, h1.1, h1.2, h2.1, h2.2]
    exact ⟨rfl, rfl⟩
end

def lRen (a b : B) (_ : Nat) : Term → Term
  | .nm s => if s = a then .nm b else .nm s
  | t => t
def lBind (a : B) (k : Nat) : Term → Term
  | .nm s => if s = a then .ix k else .nm s
  | t => t
def lOpen (b : B) (k : Nat) : Term → Term
  | .ix n => if n = k then .nm b else .ix n
  | t => t

theorem lRen_ok (a b : B) (hb : isName b = true) (j : Nat) : LeafOk (lRen a b) j j := by
  constructor
  · intro k s hk hs
    unfold lRen
    simp only
    split
    · exact ⟨rfl, hb⟩
    · exact ⟨rfl, hs⟩
  · intro k n hk h1 h2
    exact ⟨rfl, by simp [lRen, ok]; omega⟩

theorem lBind_ok (a : B) (j : Nat) : LeafOk (lBind a) j (j + 1) := by
  constructor
  · intro k s hk hs
    unfold lBind
    simp only
    split
    · exact ⟨rfl, by simp [ok]; omega⟩
    · exact ⟨rfl, hs⟩
  · intro k n hk h1 h2
    exact ⟨rfl, by simp [lBind, ok]; omega⟩

theorem lOpen_ok (b : B) (hb : isName b = true) : LeafOk (lOpen b) 1 0 := by
  constructor
  · intro k s hk hs
    exact ⟨rfl, hs⟩
  · intro k n hk h1 h2
    unfold lOpen
    simp only
    split
    · exact ⟨rfl, hb⟩
    · exact ⟨rfl, by simp [ok]; omega⟩

mutual
theorem sort_sort : ∀ (j : Nat) (t : Term), ok j t = true → sort (sort t) = sort t
  | j, .nm s, _ => rfl
  | j, .ix n, _ => rfl
  | j, .lam t, h => by rw [ok] at h; rw [sort, sort, sort_sort (j + 1) t h]
  | j, .app t b, h => by
    rw [ok, Bool.and_eq_true] at h
    rw [sort, sort, sort_sort j t h.1]
    have h1 := sorts_sorted j b h.2
    have h2 : sorts (sortBag (sorts b)) = sortBag (sorts b) := by
      have : ∀ l : List Term, (∀ u ∈ l, sort u = u) → sorts l = l := by
        intro l
        induction l with
        | nil => intro _; rfl
        | cons u l ih => intro hh; rw [sorts, hh u (by simp), ih (fun x hx => hh x (by simp [hx]))]
      exact this _ (fun u hu => h1 u ((sortBag_perm _).mem_iff.1 hu))
    rw [h2]
    congr 1
    have h3 : oks j (sortBag (sorts b)) = true := by rw [oks_perm j _ _ (sortBag_perm _), oks_sorts]; exact h.2
    exact (sortBag_unique j _ _ h3 (.refl _) (sortBag_asc _)).symm
theorem sorts_sorted : ∀ (j : Nat) (b : List Term), oks j b = true → ∀ u ∈ sorts b, sort u = u
  | j, [], _, u, hu => by simp [sorts] at hu
  | j, t :: l, h, u, hu => by
    rw [oks, Bool.and_eq_true] at h
    rw [sorts] at hu
    rcases List.mem_cons.1 hu with rfl | hu
    · exact sort_sort j t h.1
    · exact sorts_sorted j l h.2 u hu
end

mutual
theorem text_size : ∀ (j : Nat) (t : Term), ok j t = true → (text t).length + 1 ≤ 12 * size t
  | j, .nm s, h => by
    rw [ok] at h
    unfold isName at h
    split at h
    · simp only [Bool.and_eq_true, decide_eq_true_eq] at h
      simp [text, ofTerm, textT, size]; omega
    · simp at h
  | j, .ix n, h => by
    have : (dec n).length ≤ 2 := by unfold dec; split <;> simp
    simp [text, ofTerm, textT, size]; omega
  | j, .lam t, h => by
    rw [ok] at h
    have := text_size (j + 1) t h
    rw [text_lam, size]; omega
  | j, .app t b, h => by
    rw [ok, Bool.and_eq_true] at h
    have h1 := text_size j t h.1
    have h2 := texts_size j b h.2
    rw [text_app, size]; omega
theorem texts_size : ∀ (j : Nat) (b : List Term), oks j b = true → (b.map fun u => (text u).length + 1).sum ≤ 12 * sizes b
  | j, [], _ => by simp
  | j, t :: l, h => by
    rw [oks, Bool.and_eq_true] at h
    have h1 := text_size j t h.1
    have h2 := texts_size j l h.2
    rw [sizes]; simp only [List.map_cons, List.sum_cons]; omega
end

mutual
/-- How often parentheses are within each other. -/
def depT : Tree → Nat
  | .atom _ => 0
  | .list l => 1 + depL l
def depL : List Tree → Nat
  | [] => 0
  | t :: l => max (depT t) (depL l)
end

mutual
theorem dep_size : ∀ t : Term, depT (ofTerm t) ≤ size t
  | .nm s => by simp [ofTerm, depT]
  | .ix n => by simp [ofTerm, depT]
  | .lam t => by
    have := dep_size t
    simp only [ofTerm, depT, depL, size]; omega
  | .app t b => by
    have h1 := dep_size t
    have h2 := deps_size b
    have h3 := size_pos t
    simp only [ofTerm, depT, depL, size]; omega
theorem deps_size : ∀ b : List Term, depL (ofTerms b) ≤ sizes b
  | [] => by simp [ofTerms, depL]
  | t :: l => by
    have h1 := dep_size t
    have h2 := deps_size l
    simp only [ofTerms, depL, sizes]; omega
end

theorem at_drop (s A R : B) (c : UInt8) (i : Nat) (h : s.drop i = A ++ c :: R) : s[i + A.length]? = some c ∧ s.drop (i + A.length + 1) = R := by
  constructor
  · rw [← List.getElem?_drop, h, List.getElem?_append_right (Nat.le_refl _)]; simp
  · rw [show i + A.length + 1 = i + (A.length + 1) by omega, ← List.drop_drop, h, List.drop_append]
    simp

theorem rd_of (n : Nat) : (∀ (x : Tree) (s : B) (f i d : Nat) (r : B), nodes x ≤ n → wfT x = true → s.drop i = textT x ++ r → stops r = true → d + depT x ≤ 100 → 2 * (textT x).length + 1 ≤ f → rd s f i d = some (x, i + (textT x).length)) ∧
    (∀ (l : List Tree) (s : B) (f i d : Nat) (r : B), nodesL l ≤ n → l ≠ [] → wfL l = true → s.drop i = textL l ++ 41 :: r → d + depL l ≤ 100 → 2 * (textL l).length + 2 ≤ f → rdL s f i d = some (l, i + (textL l).length + 1)) := by
  induction n with
  | zero =>
    constructor
    · intro x s f i d r h; have := nodes_pos x; omega
    · intro l s f i d r h hne
      cases l with
      | nil => exact absurd rfl hne
      | cons t l => have := nodes_pos t; simp only [nodesL] at h; omega
  | succ n ih =>
    have A : ∀ (x : Tree) (s : B) (f i d : Nat) (r : B), nodes x ≤ n + 1 → wfT x = true → s.drop i = textT x ++ r → stops r = true → d + depT x ≤ 100 → 2 * (textT x).length + 1 ≤ f → rd s f i d = some (x, i + (textT x).length) := by
      intro x s f i d r hn hw hs hr hd hf
      obtain ⟨f, rfl⟩ : ∃ f', f = f' + 1 := ⟨f - 1, by omega⟩
      cases x with
      | atom a =>
        rw [wfT, Bool.and_eq_true] at hw
        rw [textT] at hs hf ⊢
        obtain ⟨c, a', rfl⟩ : ∃ c a', a = c :: a' := by
          cases a with
          | nil => simp at hw
          | cons c a' => exact ⟨c, a', rfl⟩
        have h0 := (at_drop s [] (a' ++ r) c i (by simpa using hs)).1
        have hc : isAtomB c = true := by simp at hw; exact hw.1
        have h40 : s[i]? ≠ some 40 := by
          simp at h0
          rw [h0]
          intro e
          injection e with e
          subst e
          rw [not_atom_40] at hc; cases hc
        have he : endA s i = i + (c :: a').length := by unfold endA; rw [hs, take_atom _ _ hw.2 hr]
        rw [rd, if_neg h40, if_pos (by rw [he]; simp), he]
        have : cut s i (i + (c :: a').length) = c :: a' := by unfold cut; rw [hs, Nat.add_sub_cancel_left, List.take_left]
        rw [this]
      | list l =>
        rw [wfT, Bool.and_eq_true] at hw
        rw [nodes] at hn
        rw [depT] at hd
        rw [textT] at hs hf ⊢
        have hne : l ≠ [] := by rintro rfl; simp at hw
        obtain ⟨h1, h2⟩ := at_drop s [] (textL l ++ [41] ++ r) 40 i (by simpa using hs)
        simp only [List.length_nil, Nat.add_zero] at h1 h2
        have h3 := ih.2 l s f (i + 1) (d + 1) r (by omega) hne hw.2 (by rw [h2]; simp) (by omega) (by simp at hf; omega)
        rw [rd, if_pos h1, if_pos (by omega), h3]
        simp; omega
    refine ⟨A, ?_⟩
    intro l s f i d r hn hne hw hs hd hf
    obtain ⟨f, rfl⟩ : ∃ f', f = f' + 1 := ⟨f - 1, by omega⟩
    cases l with
    | nil => exact absurd rfl hne
    | cons t l =>
      rw [nodesL] at hn
      rw [wfL, Bool.and_eq_true] at hw
      rw [depL] at hd
      cases l with
      | nil =>
        rw [textL] at hs hf ⊢
        have h1 := A t s f i d (41 :: r) (by omega) hw.1 hs (by simp [stops, not_atom_41]) (by omega) (by omega)
        obtain ⟨h2, _⟩ := at_drop s _ _ _ _ hs
        rw [rdL, h1]
        simp only
        rw [if_pos h2]
      | cons u l =>
        rw [textL] at hs hf ⊢
        have hs' : s.drop i = textT t ++ 32 :: (textL (u :: l) ++ 41 :: r) := by rw [hs]; simp
        have h1 := A t s f i d (32 :: (textL (u :: l) ++ 41 :: r)) (by omega) hw.1 hs' (by simp [stops, not_atom_32]) (by omega) (by simp at hf; omega)
        obtain ⟨h2, h3⟩ := at_drop s _ _ _ _ hs'
        have hpos := nodes_pos t
        have h4 := ih.2 (u :: l) s f (i + (textT t).length + 1) d r (by omega) (by simp) hw.2 h3 (by omega) (by simp at hf; omega)
        rw [rdL, h1]
        simp only
        rw [if_neg (by rw [h2]; decide), if_pos h2, h4]
        simp; omega

/-- A text of a tree is read as this tree. -/
theorem parse_of (x : Tree) (hw : wfT x = true) (hl : (textT x).length ≤ 4000) (hd : depT x ≤ 100) : parse (textT x) = some x := by
  have h := (rd_of (nodes x)).1 x (textT x) (2 * (textT x).length + 4) 0 0 [] (Nat.le_refl _) hw (by simp) rfl (by omega) (by omega)
  unfold parse
  rw [if_pos hl, h]
  simp

end Rt
