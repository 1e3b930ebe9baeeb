/- What the functions of chapter 5 tell of texts. -/
import Derived.Test.YtopmkddmllmecaaGreatDoorCoA
import Derived.Test.YtopmkddmllmecaaGreatDoorBsC
namespace Go.Proofs.YtopmkddmllmecaaGreatDoor
open Go.RowKit Rt Go.Lib

/-- Whether two texts are coherent resource terms. -/
def cohRes (a b : ByteArray) : Bool := match termOf a.data.toList with
  | none => false
  | some s => match termOf b.data.toList with
    | none => false
    | some t => cohB s t

/-- The joint of a list of texts, if there is one. -/
def joinT (ss : List ByteArray) : Option Jt := match termsOf ss with
  | none => none
  | some ts => jadds ts .un

/-- What CliqueJoin tells. -/
def joinRes (ss : List ByteArray) : B × Bool := match joinT ss with
  | none => ([], false)
  | some j => if ss ≠ [] ∧ jsize j ≤ 60 then (jtext j, true) else ([], false)

theorem jadds_append : ∀ (l m : List Term) (j : Jt), jadds (l ++ m) j = match jadds l j with | none => none | some j' => jadds m j'
  | [], m, j => rfl
  | t :: l, m, j => by
    rw [List.cons_append, jadds, jadds]
    cases jadd t j with
    | none => rfl
    | some j1 => exact jadds_append l m j1

theorem jadds_one (t : Term) (j : Jt) : jadds [t] j = jadd t j := by
  rw [jadds]; cases jadd t j <;> rfl

theorem joinT_nil : joinT [] = some .un := rfl

theorem termsOf_take (ss : List ByteArray) : ∀ (k : Nat) (us : List Term), termsOf ss = some us → termsOf (ss.take k) = some (us.take k) := by
  induction ss with
  | nil => intro k us h; simp [termsOf] at h; subst h; simp [termsOf]
  | cons x ss ih =>
    intro k us h
    cases k with
    | zero => simp [termsOf]
    | succ k =>
      rw [termsOf] at h
      rw [List.take_succ_cons, termsOf]
      cases hx : termOf x.data.toList with
      | none => rw [hx] at h; cases h
      | some u =>
        rw [hx] at h
        simp only [Option.map_eq_some_iff] at h
        obtain ⟨a, e1, rfl⟩ := h
        simp only [ih k a e1, Option.map_some, List.take_succ_cons]

theorem termsOf_at : ∀ (ss : List ByteArray) (ts : List Term) (k : Nat) (s : ByteArray), termsOf ss = some ts → ss[k]? = some s → ∃ t, ts[k]? = some t ∧ termOf s.data.toList = some t
  | [], ts, k, s, _, h => by simp at h
  | x :: ss, ts, k, s, h, hk => by
    rw [termsOf] at h
    cases hx : termOf x.data.toList with
    | none => rw [hx] at h; cases h
    | some u =>
      rw [hx] at h
      simp only [Option.map_eq_some_iff] at h
      obtain ⟨a, e1, rfl⟩ := h
      cases k with
      | zero => simp at hk; subst hk; exact ⟨u, rfl, hx⟩
      | succ k => simpa using termsOf_at ss a k s e1 (by simpa using hk)

theorem termsOf_all : ∀ (ss : List ByteArray), (∀ (i : Nat) (s : ByteArray), ss[i]? = some s → (termOf s.data.toList).isSome = true) → ∃ ts, termsOf ss = some ts
  | [], _ => ⟨[], rfl⟩
  | x :: ss, h => by
    obtain ⟨u, hu⟩ := Option.isSome_iff_exists.1 (h 0 x rfl)
    obtain ⟨ts, e⟩ := termsOf_all ss fun i s hs => h (i + 1) s (by simpa using hs)
    exact ⟨u :: ts, by rw [termsOf, hu]; simp only [e, Option.map_some]⟩

theorem cohRes_some {a b : ByteArray} (h : cohRes a b = true) : ∃ s t, termOf a.data.toList = some s ∧ termOf b.data.toList = some t ∧ cohB s t = true := by
  unfold cohRes at h
  cases ha : termOf a.data.toList with
  | none => rw [ha] at h; cases h
  | some s =>
    rw [ha] at h
    cases hb : termOf b.data.toList with
    | none => rw [hb] at h; cases h
    | some t => rw [hb] at h; exact ⟨s, t, rfl, rfl, h⟩

theorem joinT_pairs (ss : List ByteArray) (h : ∀ (i k : Nat) (a b : ByteArray), ss[i]? = some a → ss[k]? = some b → k ≤ i → cohRes a b = true) : (joinT ss).isSome = true := by
  obtain ⟨ts, e⟩ := termsOf_all ss fun i s hs => by
    obtain ⟨a, _, h1, _, _⟩ := cohRes_some (h i i s s hs hs (Nat.le_refl _))
    rw [h1]; rfl
  obtain ⟨hl, _, _⟩ := termsOf_ok ss ts e
  unfold joinT
  rw [e]
  show cliqueB ts = true
  refine clique_pairs ts fun i k a b hi hk hle => ?_
  have hil : i < ts.length := (List.getElem?_eq_some_iff.1 hi).1
  have hkl : k < ts.length := (List.getElem?_eq_some_iff.1 hk).1
  obtain ⟨t1, e1, e2⟩ := termsOf_at ss ts i _ e (List.getElem?_eq_getElem (by omega))
  obtain ⟨t2, e3, e4⟩ := termsOf_at ss ts k _ e (List.getElem?_eq_getElem (by omega))
  rw [hi] at e1; rw [hk] at e3
  obtain rfl := Option.some.inj e1
  obtain rfl := Option.some.inj e3
  obtain ⟨u, v, h1, h2, h3⟩ := cohRes_some (h i k _ _ (List.getElem?_eq_getElem (by omega)) (List.getElem?_eq_getElem (by omega)) hle)
  rw [e2] at h1; rw [e4] at h2
  obtain rfl := Option.some.inj h1
  obtain rfl := Option.some.inj h2
  exact h3

theorem joinT_not (ss : List ByteArray) (i k : Nat) (a b : ByteArray) (hi : ss[i]? = some a) (hk : ss[k]? = some b) (h : cohRes a b = false) : (joinT ss).isSome = false := by
  unfold joinT
  cases e : termsOf ss with
  | none => rfl
  | some ts =>
    obtain ⟨t1, e1, e2⟩ := termsOf_at ss ts i _ e hi
    obtain ⟨t2, e3, e4⟩ := termsOf_at ss ts k _ e hk
    refine clique_not ts i k t1 t2 e1 e3 ?_
    unfold cohRes at h
    rw [e2, e4] at h
    exact h

theorem joinT_two (a b : ByteArray) : (joinT [a, b]).isSome = cohRes a b := by
  unfold joinT cohRes
  rw [termsOf, termsOf, termsOf]
  cases termOf a.data.toList with
  | none => rfl
  | some s =>
    cases termOf b.data.toList with
    | none => rfl
    | some t => rfl

theorem cliqueB_one (t : Term) : cliqueB [t] = cohB t t := by
  rw [Bool.eq_iff_iff, cohB_iff, cliqueB_iff]
  constructor
  · intro h; exact h t (by simp) t (by simp)
  · intro h a ha b hb
    simp only [List.mem_cons, List.not_mem_nil, or_false] at ha hb
    subst ha; subst hb; exact h

theorem joinT_one (a : ByteArray) : (joinT [a]).isSome = cohRes a a := by
  unfold joinT cohRes
  rw [termsOf, termsOf]
  cases termOf a.data.toList with
  | none => rfl
  | some s => exact cliqueB_one s

theorem joinT_step_no (ss : List ByteArray) (k : Nat) (s : ByteArray) (h : ss[k]? = some s) (ht : termOf s.data.toList = none) : joinT ss = none := by
  unfold joinT; rw [termsOf_none ss k s h ht]

theorem joinT_step (ss : List ByteArray) (k : Nat) (s : ByteArray) (j : Jt) (t : Term) (h : ss[k]? = some s) (hj : joinT (ss.take k) = some j) (ht : termOf s.data.toList = some t) : joinT (ss.take (k + 1)) = jadd t j := by
  unfold joinT at hj ⊢
  cases e : termsOf (ss.take k) with
  | none => rw [e] at hj; cases hj
  | some ts =>
    rw [e] at hj
    simp only at hj
    rw [termsOf_snoc ss k s ts t h e ht]
    simp only
    rw [jadds_append, hj]
    exact jadds_one t j

theorem joinT_part (ss : List ByteArray) (k : Nat) (h : joinT (ss.take k) = none) : joinT ss = none := by
  unfold joinT at h ⊢
  cases e : termsOf ss with
  | none => rfl
  | some ts =>
    rw [termsOf_take ss k ts e] at h
    simp only at h ⊢
    conv => lhs; rw [← List.take_append_drop k ts]
    rw [jadds_append, h]

theorem joinT_good (ss : List ByteArray) (j : Jt) (h : joinT ss = some j) : ∃ ts, termsOf ss = some ts ∧ Rt.Good ts j := by
  unfold joinT at h
  cases e : termsOf ss with
  | none => rw [e] at h; cases h
  | some ts =>
    rw [e] at h
    exact ⟨ts, rfl, by simpa using goods_add ts [] .un j .un h⟩

theorem sizes_max (ts : List Term) (h : ∀ u ∈ ts, size u ≤ 60) : sizes ts ≤ 60 * ts.length := by
  induction ts with
  | nil => simp [sizes]
  | cons t ts ih =>
    have h1 := h t (by simp)
    have h2 := ih fun u hu => h u (List.mem_cons_of_mem _ hu)
    simp only [sizes, List.length_cons]; omega

theorem joinT_size (ss : List ByteArray) (j : Jt) (h : joinT ss = some j) : jsize j ≤ 1 + 120 * ss.length := by
  obtain ⟨ts, e, hg⟩ := joinT_good ss j h
  obtain ⟨h1, h2, h3⟩ := termsOf_ok ss ts e
  have h4 := good_size hg
  have h5 := sizes_max ts h3
  omega

theorem joinT_short (ss : List ByteArray) (j : Jt) (h : joinT ss = some j) : jshort j := by
  unfold joinT at h
  cases e : termsOf ss with
  | none => rw [e] at h; cases h
  | some ts =>
    rw [e] at h
    exact jadds_short ts 0 .un j (termsOf_ok ss ts e).2.1 trivial h

end Go.Proofs.YtopmkddmllmecaaGreatDoor
