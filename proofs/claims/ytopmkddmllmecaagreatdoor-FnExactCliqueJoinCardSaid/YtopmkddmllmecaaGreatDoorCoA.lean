/- Coherence: joints of terms, cliques, and that a list of terms has a joint exactly if each two of it are coherent. -/
import Derived.Test.YtopmkddmllmecaaGreatDoorPure
namespace Rt

/-- The least lambda term of some terms. -/
inductive Jt where
  | un
  | at (s : B)
  | lam (j : Jt)
  | app (j k : Jt)

mutual
/-- A joint with one more term. -/
def jadd : Term → Jt → Option Jt
  | .nm s, .un => some (.at s)
  | .ix n, .un => some (.at (dec n))
  | .lam t, .un => (jadd t .un).map .lam
  | .app t b, .un => match jadd t .un with
    | none => none
    | some j => (jadds b .un).map (.app j)
  | .nm s, .at a => if s = a then some (.at a) else none
  | .ix n, .at a => if dec n = a then some (.at a) else none
  | .lam t, .lam j => (jadd t j).map .lam
  | .app t b, .app j k => match jadd t j with
    | none => none
    | some j' => (jadds b k).map (.app j')
  | _, _ => none
/-- A joint with some more terms. -/
def jadds : List Term → Jt → Option Jt
  | [], j => some j
  | t :: l, j => match jadd t j with
    | none => none
    | some j' => jadds l j'
end

/-- The text of an atom. -/
def atomT : Term → Option B
  | .nm s => some s
  | .ix n => some (dec n)
  | _ => none

/-- Coherent terms. -/
inductive Coh : Term → Term → Prop
  | atom (a b : Term) (s : B) : atomT a = some s → atomT b = some s → Coh a b
  | lam (s t : Term) : Coh s t → Coh (.lam s) (.lam t)
  | app (s t : Term) (b c : List Term) : Coh s t → (∀ u, u ∈ b ++ c → ∀ v, v ∈ b ++ c → Coh u v) → Coh (.app s b) (.app t c)

/-- The joint of a list of terms. -/
inductive Good : List Term → Jt → Prop
  | un : Good [] .un
  | atom (l : List Term) (s : B) : l ≠ [] → (∀ t ∈ l, atomT t = some s) → Good l (.at s)
  | lam (l m : List Term) (j : Jt) : m ≠ [] → l = m.map .lam → Good m j → Good l (.lam j)
  | app (l : List Term) (m : List (Term × List Term)) (j k : Jt) : m ≠ [] → l = m.map (fun p => .app p.1 p.2) → Good (m.map (·.1)) j → Good (m.flatMap (·.2)) k → Good l (.app j k)

theorem Coh.symm {a b : Term} (h : Coh a b) : Coh b a := by
  induction h with
  | atom a b s h1 h2 => exact .atom _ _ s h2 h1
  | lam s t _ ih => exact .lam _ _ ih
  | app s t b c _ h2 ih _ =>
    refine .app _ _ _ _ ih fun u hu v hv => h2 u ?_ v ?_
    · simp only [List.mem_append] at hu ⊢; exact hu.symm
    · simp only [List.mem_append] at hv ⊢; exact hv.symm

theorem Coh.left {a b : Term} (h : Coh a b) : Coh a a := by
  induction h with
  | atom a b s h1 h2 => exact .atom _ _ s h1 h1
  | lam s t _ ih => exact .lam _ _ ih
  | app s t b c _ h2 ih _ =>
    refine .app _ _ _ _ ih fun u hu v hv => h2 u ?_ v ?_
    · simp only [List.mem_append] at hu ⊢; exact .inl (by rcases hu with h | h <;> exact h)
    · simp only [List.mem_append] at hv ⊢; exact .inl (by rcases hv with h | h <;> exact h)

theorem good_nil {l : List Term} (h : Good l .un) : l = [] := by cases h; rfl

theorem good_ne {l : List Term} {j : Jt} (h : Good l j) (hj : j ≠ .un) : l ≠ [] := by
  cases h with
  | un => exact absurd rfl hj
  | atom l s h1 _ => exact h1
  | lam l m j h1 h2 _ => subst h2; simpa using h1
  | app l m j k h1 h2 _ _ => subst h2; simpa using h1

mutual
theorem good_add : ∀ (t : Term) (l : List Term) (j j' : Jt), Good l j → jadd t j = some j' → Good (l ++ [t]) j'
  | .nm s, l, .un, j', h, e => by
    obtain rfl := good_nil h
    simp only [jadd, Option.some.injEq] at e; subst e
    exact .atom _ _ (by simp) (by simp [atomT])
  | .ix n, l, .un, j', h, e => by
    obtain rfl := good_nil h
    simp only [jadd, Option.some.injEq] at e; subst e
    exact .atom _ _ (by simp) (by simp [atomT])
  | .lam t, l, .un, j', h, e => by
    obtain rfl := good_nil h
    rw [jadd, Option.map_eq_some_iff] at e
    obtain ⟨j1, e1, rfl⟩ := e
    have := good_add t [] .un j1 .un e1
    exact .lam _ [t] _ (by simp) rfl this
  | .app t b, l, .un, j', h, e => by
    obtain rfl := good_nil h
    rw [jadd] at e
    cases e1 : jadd t .un with
    | none => rw [e1] at e; simp at e
    | some j1 =>
      rw [e1] at e
      simp only at e
      rw [Option.map_eq_some_iff] at e
      obtain ⟨k1, e2, rfl⟩ := e
      have g1 := good_add t [] .un j1 .un e1
      have g2 := goods_add b [] .un k1 .un e2
      exact .app _ [(t, b)] _ _ (by simp) rfl g1 (by simpa using g2)
  | .nm s, l, .at a, j', h, e => by
    rw [jadd] at e
    split at e
    · rename_i hs
      simp only [Option.some.injEq] at e; subst e
      cases h with
      | atom _ _ h1 h2 =>
        refine .atom _ _ (by simp) fun t ht => ?_
        simp only [List.mem_append, List.mem_singleton] at ht
        rcases ht with h | rfl
        · exact h2 t h
        · simp [atomT, hs]
    · simp at e
  | .ix n, l, .at a, j', h, e => by
    rw [jadd] at e
    split at e
    · rename_i hs
      simp only [Option.some.injEq] at e; subst e
      cases h with
      | atom _ _ h1 h2 =>
        refine .atom _ _ (by simp) fun t ht => ?_
        simp only [List.mem_append, List.mem_singleton] at ht
        rcases ht with h | rfl
        · exact h2 t h
        · simp [atomT, hs]
    · simp at e
  | .lam t, l, .lam j, j', h, e => by
    rw [jadd, Option.map_eq_some_iff] at e
    obtain ⟨j1, e1, rfl⟩ := e
    cases h with
    | lam _ m _ h1 h2 h3 =>
      subst h2
      have := good_add t m j j1 h3 e1
      exact .lam _ (m ++ [t]) _ (by simp) (by simp) this
  | .app t b, l, .app j k, j', h, e => by
    rw [jadd] at e
    cases e1 : jadd t j with
    | none => rw [e1] at e; simp at e
    | some j1 =>
      rw [e1] at e
      simp only at e
      rw [Option.map_eq_some_iff] at e
      obtain ⟨k1, e2, rfl⟩ := e
      cases h with
      | app _ m _ _ h1 h2 h3 h4 =>
        subst h2
        have g1 := good_add t _ j j1 h3 e1
        have g2 := goods_add b _ k k1 h4 e2
        exact .app _ (m ++ [(t, b)]) _ _ (by simp) (by simp) (by simpa using g1) (by simpa using g2)
  | .nm s, l, .lam j, j', h, e => by simp [jadd] at e
  | .nm s, l, .app j k, j', h, e => by simp [jadd] at e
  | .ix s, l, .lam j, j', h, e => by simp [jadd] at e
  | .ix s, l, .app j k, j', h, e => by simp [jadd] at e
  | .lam t, l, .at a, j', h, e => by simp [jadd] at e
  | .lam t, l, .app j k, j', h, e => by simp [jadd] at e
  | .app t b, l, .at a, j', h, e => by simp [jadd] at e
  | .app t b, l, .lam j, j', h, e => by simp [jadd] at e
theorem goods_add : ∀ (ts : List Term) (l : List Term) (j j' : Jt), Good l j → jadds ts j = some j' → Good (l ++ ts) j'
  | [], l, j, j', h, e => by
    simp only [jadds, Option.some.injEq] at e; subst e
    simpa using h
  | t :: ts, l, j, j', h, e => by
    rw [jadds] at e
    cases e1 : jadd t j with
    | none => rw [e1] at e; simp at e
    | some j1 =>
      rw [e1] at e
      simp only at e
      have := goods_add ts _ j1 j' (good_add t l j j1 h e1) e
      simpa using this
end

theorem good_coh {l : List Term} {j : Jt} (h : Good l j) : ∀ a ∈ l, ∀ b ∈ l, Coh a b := by
  induction h with
  | un => intro a ha; simp at ha
  | atom l s _ h2 => intro a ha b hb; exact .atom _ _ s (h2 a ha) (h2 b hb)
  | lam l m j _ h2 _ ih =>
    subst h2
    intro a ha b hb
    obtain ⟨x, hx, rfl⟩ := List.mem_map.1 ha
    obtain ⟨y, hy, rfl⟩ := List.mem_map.1 hb
    exact .lam _ _ (ih x hx y hy)
  | app l m j k _ h2 _ _ ih1 ih2 =>
    subst h2
    intro a ha b hb
    obtain ⟨x, hx, rfl⟩ := List.mem_map.1 ha
    obtain ⟨y, hy, rfl⟩ := List.mem_map.1 hb
    refine .app _ _ _ _ (ih1 _ (List.mem_map.2 ⟨x, hx, rfl⟩) _ (List.mem_map.2 ⟨y, hy, rfl⟩)) fun u hu v hv => ih2 u ?_ v ?_
    · rcases List.mem_append.1 hu with h | h
      · exact List.mem_flatMap.2 ⟨x, hx, h⟩
      · exact List.mem_flatMap.2 ⟨y, hy, h⟩
    · rcases List.mem_append.1 hv with h | h
      · exact List.mem_flatMap.2 ⟨x, hx, h⟩
      · exact List.mem_flatMap.2 ⟨y, hy, h⟩

theorem coh_lam {s t : Term} (h : Coh (.lam s) (.lam t)) : Coh s t := by
  cases h with
  | atom _ _ s h1 _ => simp [atomT] at h1
  | lam _ _ h => exact h

theorem coh_app {s t : Term} {b c : List Term} (h : Coh (.app s b) (.app t c)) : Coh s t ∧ ∀ u, u ∈ b ++ c → ∀ v, v ∈ b ++ c → Coh u v := by
  cases h with
  | atom _ _ s h1 _ => simp [atomT] at h1
  | app _ _ _ _ h1 h2 => exact ⟨h1, h2⟩

theorem coh_atom {a b : Term} {s : B} (h : Coh a b) (ha : atomT a = some s) : atomT b = some s := by
  cases h with
  | atom _ _ s' h1 h2 => rw [h1] at ha; rw [h2]; exact ha
  | lam _ _ _ => simp [atomT] at ha
  | app _ _ _ _ _ _ => simp [atomT] at ha

/-- A clique of a joint, with one of its terms. -/
theorem good_some {l : List Term} {j : Jt} (h : Good l j) (hj : j ≠ .un) : ∃ a, a ∈ l := by
  cases l with
  | nil => exact absurd rfl (good_ne h hj)
  | cons a l => exact ⟨a, by simp⟩

mutual
theorem coh_add : ∀ (t : Term) (l : List Term) (j : Jt), Good l j → Coh t t → (∀ a ∈ l, Coh a t) → ∃ j', jadd t j = some j'
  | .nm s, l, .un, h, _, _ => ⟨_, rfl⟩
  | .ix n, l, .un, h, _, _ => ⟨_, rfl⟩
  | .nm s, l, .at a, h, _, hc => by
    obtain ⟨x, hx⟩ := good_some h (by simp)
    cases h with
    | atom _ _ _ h2 =>
      have := coh_atom (hc x hx) (h2 x hx)
      simp only [atomT, Option.some.injEq] at this
      exact ⟨_, by rw [jadd, if_pos this]⟩
  | .ix n, l, .at a, h, _, hc => by
    obtain ⟨x, hx⟩ := good_some h (by simp)
    cases h with
    | atom _ _ _ h2 =>
      have := coh_atom (hc x hx) (h2 x hx)
      simp only [atomT, Option.some.injEq] at this
      exact ⟨_, by rw [jadd, if_pos this]⟩
  | .lam t, l, .un, h, hs, _ => by
    obtain ⟨j1, e⟩ := coh_add t [] .un .un (coh_lam hs) (by simp)
    exact ⟨_, by rw [jadd, e]; rfl⟩
  | .lam t, l, .lam j, h, hs, hc => by
    cases h with
    | lam _ m _ h1 h2 h3 =>
      subst h2
      obtain ⟨j1, e⟩ := coh_add t m j h3 (coh_lam hs) fun a ha => coh_lam (hc _ (List.mem_map.2 ⟨a, ha, rfl⟩))
      exact ⟨_, by rw [jadd, e]; rfl⟩
  | .app t b, l, .un, h, hs, _ => by
    obtain ⟨j1, e⟩ := coh_add t [] .un .un (coh_app hs).1 (by simp)
    obtain ⟨k1, e'⟩ := cohs_add b [] .un .un fun u hu v hv => (coh_app hs).2 u (List.mem_append.2 (.inl (by simpa using hu))) v (List.mem_append.2 (.inl (by simpa using hv)))
    exact ⟨_, by rw [jadd, e]; simp only; rw [e']; rfl⟩
  | .app t b, l, .app j k, h, hs, hc => by
    cases h with
    | app _ m _ _ h1 h2 h3 h4 =>
      subst h2
      have hcm : ∀ p ∈ m, Coh (.app p.1 p.2) (.app t b) := fun p hp => hc _ (List.mem_map.2 ⟨p, hp, rfl⟩)
      obtain ⟨j1, e⟩ := coh_add t _ j h3 (coh_app hs).1 fun a ha => by
        obtain ⟨p, hp, rfl⟩ := List.mem_map.1 ha
        exact (coh_app (hcm p hp)).1
      obtain ⟨k1, e'⟩ := cohs_add b _ k h4 fun u hu v hv => by
        rcases List.mem_append.1 hu with hu | hu <;> rcases List.mem_append.1 hv with hv | hv
        · exact good_coh h4 u hu v hv
        · obtain ⟨p, hp, hup⟩ := List.mem_flatMap.1 hu
          exact (coh_app (hcm p hp)).2 u (List.mem_append.2 (.inl hup)) v (List.mem_append.2 (.inr hv))
        · obtain ⟨p, hp, hvp⟩ := List.mem_flatMap.1 hv
          exact (coh_app (hcm p hp)).2 u (List.mem_append.2 (.inr hu)) v (List.mem_append.2 (.inl hvp))
        · exact (coh_app hs).2 u (List.mem_append.2 (.inl hu)) v (List.mem_append.2 (.inl hv))
      exact ⟨_, by rw [jadd, e]; simp only; rw [e']; rfl⟩
  | .nm s, l, .lam j, h, _, hc => by
    obtain ⟨x, hx⟩ := good_some h (by simp)
    have := coh_atom (hc x hx).symm (s := s) rfl
    cases h with
    | lam _ m _ h1 h2 h3 => subst h2; obtain ⟨y, _, rfl⟩ := List.mem_map.1 hx; simp [atomT] at this
  | .nm s, l, .app j k, h, _, hc => by
    obtain ⟨x, hx⟩ := good_some h (by simp)
    have := coh_atom (hc x hx).symm (s := s) rfl
    cases h with
    | app _ m _ _ h1 h2 h3 h4 => subst h2; obtain ⟨y, _, rfl⟩ := List.mem_map.1 hx; simp [atomT] at this
  | .ix s, l, .lam j, h, _, hc => by
    obtain ⟨x, hx⟩ := good_some h (by simp)
    have := coh_atom (hc x hx).symm (s := dec s) rfl
    cases h with
    | lam _ m _ h1 h2 h3 => subst h2; obtain ⟨y, _, rfl⟩ := List.mem_map.1 hx; simp [atomT] at this
  | .ix s, l, .app j k, h, _, hc => by
    obtain ⟨x, hx⟩ := good_some h (by simp)
    have := coh_atom (hc x hx).symm (s := dec s) rfl
    cases h with
    | app _ m _ _ h1 h2 h3 h4 => subst h2; obtain ⟨y, _, rfl⟩ := List.mem_map.1 hx; simp [atomT] at this
  | .lam t, l, .at a, h, _, hc => by
    obtain ⟨x, hx⟩ := good_some h (by simp)
    cases h with
    | atom _ _ _ h2 =>
      have := coh_atom (hc x hx) (h2 x hx)
      simp [atomT] at this
  | .app t b, l, .at a, h, _, hc => by
    obtain ⟨x, hx⟩ := good_some h (by simp)
    cases h with
    | atom _ _ _ h2 =>
      have := coh_atom (hc x hx) (h2 x hx)
      simp [atomT] at this
  | .lam t, l, .app j k, h, _, hc => by
    obtain ⟨x, hx⟩ := good_some h (by simp)
    cases h with
    | app _ m _ _ h1 h2 h3 h4 =>
      subst h2
      obtain ⟨y, _, rfl⟩ := List.mem_map.1 hx
      have := hc _ hx
      cases this with
      | atom _ _ s h1 _ => simp [atomT] at h1
  | .app t b, l, .lam j, h, _, hc => by
    obtain ⟨x, hx⟩ := good_some h (by simp)
    cases h with
    | lam _ m _ h1 h2 h3 =>
      subst h2
      obtain ⟨y, _, rfl⟩ := List.mem_map.1 hx
      have := hc _ hx
      cases this with
      | atom _ _ s h1 _ => simp [atomT] at h1
theorem cohs_add : ∀ (ts : List Term) (l : List Term) (j : Jt), Good l j → (∀ a, a ∈ l ++ ts → ∀ b, b ∈ l ++ ts → Coh a b) → ∃ j', jadds ts j = some j'
  | [], l, j, h, _ => ⟨_, rfl⟩
  | t :: ts, l, j, h, hc => by
    obtain ⟨j1, e⟩ := coh_add t l j h (hc t (by simp) t (by simp)) fun a ha => hc a (by simp [ha]) t (by simp)
    obtain ⟨j2, e2⟩ := cohs_add ts (l ++ [t]) j1 (good_add t l j j1 h e) (by simpa using hc)
    exact ⟨j2, by rw [jadds, e]; exact e2⟩
end

/-- Whether terms are a clique. -/
def cliqueB (l : List Term) : Bool := (jadds l .un).isSome

theorem cliqueB_iff (l : List Term) : cliqueB l = true ↔ ∀ a ∈ l, ∀ b ∈ l, Coh a b := by
  unfold cliqueB
  constructor
  · intro h
    obtain ⟨j, e⟩ := Option.isSome_iff_exists.1 h
    exact good_coh (by simpa using goods_add l [] .un j .un e)
  · intro h
    obtain ⟨j, e⟩ := cohs_add l [] .un .un (by simpa using h)
    rw [e]; rfl

/-- Whether two terms are coherent. -/
def cohB (a b : Term) : Bool := cliqueB [a, b]

theorem cohB_iff (a b : Term) : cohB a b = true ↔ Coh a b := by
  unfold cohB
  rw [cliqueB_iff]
  constructor
  · intro h; exact h a (by simp) b (by simp)
  · intro h x hx y hy
    have hs := h.symm
    simp only [List.mem_cons, List.not_mem_nil, or_false] at hx hy
    rcases hx with rfl | rfl <;> rcases hy with rfl | rfl
    · exact h.left
    · exact h
    · exact hs
    · exact hs.left

theorem cohB_false {a b : Term} (h : ¬ Coh a b) : cohB a b = false := by
  cases hb : cohB a b with
  | false => rfl
  | true => exact absurd ((cohB_iff a b).1 hb) h

/-- A list is a clique if each one of it is coherent with itself and those ahead. -/
theorem clique_pairs (l : List Term) (h : ∀ (i k : Nat) (a b : Term), l[i]? = some a → l[k]? = some b → k ≤ i → cohB a b = true) : cliqueB l = true := by
  rw [cliqueB_iff]
  intro a ha b hb
  obtain ⟨i, hi⟩ := List.getElem?_of_mem ha
  obtain ⟨k, hk⟩ := List.getElem?_of_mem hb
  rcases Nat.le_total k i with hl | hl
  · exact (cohB_iff _ _).1 (h i k a b hi hk hl)
  · exact ((cohB_iff _ _).1 (h k i b a hk hi hl)).symm

theorem clique_not (l : List Term) (i k : Nat) (a b : Term) (hi : l[i]? = some a) (hk : l[k]? = some b) (h : cohB a b = false) : cliqueB l = false := by
  cases hc : cliqueB l with
  | false => rfl
  | true =>
    have := (cohB_iff a b).2 ((cliqueB_iff l).1 hc a (List.mem_of_getElem? hi) b (List.mem_of_getElem? hk))
    rw [this] at h; cases h

theorem cohB_lam (s t : Term) : cohB (.lam s) (.lam t) = cohB s t := by
  rw [Bool.eq_iff_iff, cohB_iff, cohB_iff]
  exact ⟨coh_lam, .lam _ _⟩

theorem cohB_app (s t : Term) (b c : List Term) : cohB (.app s b) (.app t c) = (cohB s t && cliqueB (b ++ c)) := by
  rw [Bool.eq_iff_iff, cohB_iff, Bool.and_eq_true, cohB_iff, cliqueB_iff]
  exact ⟨coh_app, fun h => .app _ _ _ _ h.1 h.2⟩

theorem cohB_atom {a b : Term} {s r : B} (ha : atomT a = some s) (hb : atomT b = some r) : cohB a b = decide (s = r) := by
  rw [Bool.eq_iff_iff, cohB_iff, decide_eq_true_iff]
  constructor
  · intro h
    have := coh_atom h ha
    rw [hb] at this
    exact (Option.some.inj this).symm
  · intro h; subst h; exact .atom _ _ _ ha hb

theorem cohB_atom_no {a b : Term} {s : B} (ha : atomT a = some s) (hb : atomT b = none) : cohB a b = false :=
  cohB_false fun h => by have := coh_atom h ha; rw [hb] at this; cases this

theorem cohB_no_atom {a b : Term} {s : B} (ha : atomT a = none) (hb : atomT b = some s) : cohB a b = false :=
  cohB_false fun h => by have := coh_atom h.symm hb; rw [ha] at this; cases this

theorem cohB_lam_app (s t : Term) (b : List Term) : cohB (.lam s) (.app t b) = false :=
  cohB_false fun h => by cases h with | atom _ _ s h1 _ => simp [atomT] at h1
theorem cohB_app_lam (s t : Term) (b : List Term) : cohB (.app t b) (.lam s) = false :=
  cohB_false fun h => by cases h with | atom _ _ s h1 _ => simp [atomT] at h1

/-- How many names, indices, lam and app a joint has. -/
def jsize : Jt → Nat
  | .un => 1
  | .at _ => 1
  | .lam j => 1 + jsize j
  | .app j k => 1 + jsize j + jsize k

def sU : B := [117, 48]

/-- The tree of a joint. -/
def jtree : Jt → Tree
  | .un => .atom sU
  | .at s => .atom s
  | .lam j => .list [.atom sLam, jtree j]
  | .app j k => .list [.atom sApp, jtree j, jtree k]

/-- The text of a joint. -/
def jtext (j : Jt) : B := textT (jtree j)

theorem sizes_append (a b : List Term) : sizes (a ++ b) = sizes a + sizes b := by
  induction a with
  | nil => simp [sizes]
  | cons t a ih => simp [sizes, ih]; omega

theorem sizes_maplam (m : List Term) : sizes (m.map .lam) = sizes m + m.length := by
  induction m with
  | nil => simp [sizes]
  | cons t m ih => simp [sizes, size, ih]; omega

theorem sizes_mapapp (m : List (Term × List Term)) : sizes (m.map fun p => Term.app p.1 p.2) = sizes (m.map (·.1)) + sizes (m.flatMap (·.2)) + m.length := by
  induction m with
  | nil => simp [sizes]
  | cons t m ih => simp [sizes, size, sizes_append, ih]; omega

theorem good_size {l : List Term} {j : Jt} (h : Good l j) : jsize j ≤ 1 + 2 * sizes l := by
  induction h with
  | un => simp [jsize]
  | atom l s _ _ => simp [jsize]
  | lam l m j h1 h2 _ ih =>
    subst h2
    have : 1 ≤ m.length := by cases m with | nil => exact absurd rfl h1 | cons a m => simp
    rw [jsize, sizes_maplam]; omega
  | app l m j k h1 h2 _ _ ih1 ih2 =>
    subst h2
    have : 1 ≤ m.length := by cases m with | nil => exact absurd rfl h1 | cons a m => simp
    rw [jsize, sizes_mapapp]; omega

/-- A joint whose atoms are short and not empty. -/
def jshort : Jt → Prop
  | .un => True
  | .at s => s ≠ [] ∧ s.length ≤ 4 ∧ s.head? ≠ some 40
  | .lam j => jshort j
  | .app j k => jshort j ∧ jshort k

theorem jtext_len : ∀ (j : Jt), jshort j → (jtext j).length ≤ 8 * jsize j
  | .un, _ => by simp [jtext, jtree, textT, jsize, sU]
  | .at s, h => by have := h.2.1; simp [jtext, jtree, textT, jsize]; omega
  | .lam j, h => by
    have := jtext_len j h
    simp only [jtext, jtree, textT, textL, jsize, sLam, List.length_cons, List.length_append, List.length_nil] at this ⊢
    omega
  | .app j k, h => by
    have h1 := jtext_len j h.1
    have h2 := jtext_len k h.2
    simp only [jtext, jtree, textT, textL, jsize, sApp, List.length_cons, List.length_append, List.length_nil] at h1 h2 ⊢
    omega

mutual
theorem jadd_short : ∀ (t : Term) (m : Nat) (j j' : Jt), ok m t = true → jshort j → jadd t j = some j' → jshort j'
  | .nm s, m, .un, j', ho, hj, e => by
    simp only [jadd, Option.some.injEq] at e; subst e
    rw [ok] at ho
    unfold isName at ho
    cases s with
    | nil => simp at ho
    | cons c r =>
      simp only [Bool.and_eq_true, decide_eq_true_eq] at ho
      refine ⟨by simp, by simp; omega, ?_⟩
      simp only [List.head?_cons, ne_eq, Option.some.injEq]
      rintro rfl
      exact absurd ho.1.1 (by decide)
  | .ix n, m, .un, j', ho, hj, e => by
    simp only [jadd, Option.some.injEq] at e; subst e
    rw [ok, decide_eq_true_iff] at ho
    refine ⟨?_, ?_, ?_⟩
    · unfold dec; split <;> simp
    · unfold dec; split <;> simp
    · unfold dec
      split
      · simp only [List.head?_cons, ne_eq, Option.some.injEq]
        intro h
        have := congrArg UInt8.toNat h
        simp at this; omega
      · simp only [List.head?_cons, ne_eq, Option.some.injEq]
        intro h
        have := congrArg UInt8.toNat h
        simp at this; omega
  | .lam t, m, .un, j', ho, hj, e => by
    rw [jadd, Option.map_eq_some_iff] at e
    obtain ⟨j1, e1, rfl⟩ := e
    rw [ok] at ho
    exact jadd_short t (m + 1) .un j1 ho trivial e1
  | .app t b, m, .un, j', ho, hj, e => by
    rw [jadd] at e
    rw [ok, Bool.and_eq_true] at ho
    cases e1 : jadd t .un with
    | none => rw [e1] at e; simp at e
    | some j1 =>
      rw [e1] at e
      simp only at e
      rw [Option.map_eq_some_iff] at e
      obtain ⟨k1, e2, rfl⟩ := e
      exact ⟨jadd_short t m .un j1 ho.1 trivial e1, jadds_short b m .un k1 ho.2 trivial e2⟩
  | .nm s, m, .at a, j', ho, hj, e => by
    rw [jadd] at e
    split at e
    · simp only [Option.some.injEq] at e; subst e; exact hj
    · simp at e
  | .ix s, m, .at a, j', ho, hj, e => by
    rw [jadd] at e
    split at e
    · simp only [Option.some.injEq] at e; subst e; exact hj
    · simp at e
  | .lam t, m, .lam j, j', ho, hj, e => by
    rw [jadd, Option.map_eq_some_iff] at e
    obtain ⟨j1, e1, rfl⟩ := e
    rw [ok] at ho
    exact jadd_short t (m + 1) j j1 ho hj e1
  | .app t b, m, .app j k, j', ho, hj, e => by
    rw [jadd] at e
    rw [ok, Bool.and_eq_true] at ho
    cases e1 : jadd t j with
    | none => rw [e1] at e; simp at e
    | some j1 =>
      rw [e1] at e
      simp only at e
      rw [Option.map_eq_some_iff] at e
      obtain ⟨k1, e2, rfl⟩ := e
      exact ⟨jadd_short t m j j1 ho.1 hj.1 e1, jadds_short b m k k1 ho.2 hj.2 e2⟩
  | .nm s, m, .lam j, j', _, _, e => by simp [jadd] at e
  | .nm s, m, .app j k, j', _, _, e => by simp [jadd] at e
  | .ix s, m, .lam j, j', _, _, e => by simp [jadd] at e
  | .ix s, m, .app j k, j', _, _, e => by simp [jadd] at e
  | .lam t, m, .at a, j', _, _, e => by simp [jadd] at e
  | .lam t, m, .app j k, j', _, _, e => by simp [jadd] at e
  | .app t b, m, .at a, j', _, _, e => by simp [jadd] at e
  | .app t b, m, .lam j, j', _, _, e => by simp [jadd] at e
theorem jadds_short : ∀ (ts : List Term) (m : Nat) (j j' : Jt), oks m ts = true → jshort j → jadds ts j = some j' → jshort j'
  | [], m, j, j', _, hj, e => by simp only [jadds, Option.some.injEq] at e; subst e; exact hj
  | t :: ts, m, j, j', ho, hj, e => by
    rw [jadds] at e
    rw [oks, Bool.and_eq_true] at ho
    cases e1 : jadd t j with
    | none => rw [e1] at e; simp at e
    | some j1 =>
      rw [e1] at e
      exact jadds_short ts m j1 j' ho.2 (jadd_short t m j j1 ho.1 hj e1) e
end

end Rt
