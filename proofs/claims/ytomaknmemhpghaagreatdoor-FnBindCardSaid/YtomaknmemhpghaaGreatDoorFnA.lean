/- What the laws of stage 1 say of terms: what is sorted or bound and opened again. What more laws of stage 1 say of terms: names, degrees, renamed terms, bags. -/
import Derived.Test.YtomaknmemhpghaaGreatDoorKdC
import Derived.Test.YtomaknmemhpghaaGreatDoorSpE
import Derived.Test.YtomaknmemhpghaaGreatDoorNmA
import Derived.Test.YtomaknmemhpghaaGreatDoorBsD
/-! What the laws of stage 1 say of terms: what is sorted or bound and opened again. -/
namespace Go.Proofs.YtomaknmemhpghaaGreatDoor
open Go.RowKit Rt Go.Lib

theorem sortRes_valid (l : B) (t : Term) (h : termOf l = some t) : sortRes l = (l, true) := by
  obtain ⟨h1, h2⟩ := termOf_some l t h
  unfold sortRes
  rw [h1]
  simp only [h2]

theorem sortRes_again (l o : B) (h : sortRes l = (o, true)) : ∃ t, termOf o = some t ∧ o.length = l.length := by
  unfold sortRes at h
  cases hl : loose l with
  | none => rw [hl] at h; simp at h
  | some t =>
    rw [hl] at h
    simp only [Prod.mk.injEq, and_true] at h
    obtain ⟨h1, h2, h3, h4⟩ := loose_some l t hl
    subst h
    have h5 := termOf_text t h1 (by omega)
    rw [if_pos h4] at h5
    exact ⟨sort t, h5, by rw [text_sort_len]; exact h2⟩

theorem sizeRes_valid (l : B) (t : Term) (h : termOf l = some t) : sizeRes l = size t := by
  unfold sizeRes; rw [h]

theorem sizeRes_text (t : Term) (ho : ok 0 t = true) (hs : size t ≤ 60) (hq : sort t = t) : sizeRes (text t) = size t := by
  have h := termOf_text t ho (by omega)
  rw [if_pos hs, hq] at h
  exact sizeRes_valid _ _ h

theorem sort_app (t : Term) (b : List Term) (k : Nat) (hk : ok k (.app t b) = true) (h : sort (.app t b) = .app t b) : sort t = t ∧ ∀ u ∈ b, sort u = u := by
  rw [sort] at h
  injection h with h1 h2
  rw [ok, Bool.and_eq_true] at hk
  refine ⟨h1, fun u hu => ?_⟩
  rw [← h2] at hu
  exact sorts_sorted k b hk.2 u ((sortBag_perm _).mem_iff.1 hu)

/-- The sizes of the parts of a term. -/
def kidSizes (ss : List ByteArray) (k : Nat) : Int := 1 + (((ss.take k).drop 1).map fun s => sizeRes s.data.toList).sum

theorem kidSizes_succ (ss : List ByteArray) (k : Nat) (s : ByteArray) (hk : 1 ≤ k) (h : ss[k]? = some s) : kidSizes ss (k + 1) = kidSizes ss k + sizeRes s.data.toList := by
  unfold kidSizes
  have hl : k < ss.length := (List.getElem?_eq_some_iff.1 h).1
  rw [List.take_add_one, h, List.drop_append_of_le_length (by rw [List.length_take]; omega)]
  simp
  omega

theorem kids_sizes (l : B) (T : Term) (h : termOf l = some T) : (kidsRes l).2 = true ∧ kidSizes (kidsRes l).1 (kidsRes l).1.length = size T := by
  obtain ⟨h1, h2⟩ := termOf_ok l T h
  have h3 := (termOf_sorted l T h).1
  unfold kidsRes
  rw [h]
  unfold kidSizes
  cases T with
  | nm a => simp [Rt.size]
  | ix i => simp [Rt.size]
  | lam t =>
    rw [ok] at h1
    rw [Rt.size] at h2
    obtain ⟨z1, z2⟩ := swp_ok (lOpen sK0) 1 0 (lOpen_ok sK0 k0_name) t 0 (by omega) h1
    have z3 : ok 0 (swp (lOpen sK0) 0 t) = true := z2
    have hz := sizeRes_text (sort (swp (lOpen sK0) 0 t)) (by rw [ok_sort]; exact z3) (by rw [size_sort, z1]; omega) (sort_sort 0 _ z3)
    rw [size_sort, z1] at hz
    refine ⟨rfl, ?_⟩
    show 1 + (([tb (sort (swp (lOpen sK0) 0 t))] : List ByteArray).map fun s => sizeRes s.data.toList).sum = _
    rw [List.map_cons, List.map_nil, List.sum_cons, List.sum_nil]
    show 1 + (sizeRes (text (sort (swp (lOpen sK0) 0 t))) + 0) = _
    rw [hz, Rt.size]
    omega
  | app t b =>
    obtain ⟨s1, s2⟩ := sort_app t b 0 h1 h3
    rw [ok, Bool.and_eq_true] at h1
    rw [Rt.size] at h2
    have ht := sizeRes_text t h1.1 (by omega) s1
    have hb : ∀ u ∈ b, sizeRes (text u) = size u := fun u hu => sizeRes_text u ((oks_mem 0 b).1 h1.2 u hu) (by have := size_mem b u hu; omega) (s2 u hu)
    refine ⟨rfl, ?_⟩
    rw [List.take_length]
    show 1 + ((tb t :: b.map tb).map fun s => sizeRes s.data.toList).sum = _
    rw [List.map_cons, List.sum_cons, List.map_map]
    have e1 : ((fun s : ByteArray => sizeRes s.data.toList) ∘ tb) = fun u => sizeRes (text u) := rfl
    rw [e1, List.map_congr_left hb, Rt.size]
    show 1 + (sizeRes (text t) + _) = _
    rw [ht]
    have e2 : ∀ b : List Term, (b.map fun u => ((size u : Nat) : Int)).sum = ((sizes b : Nat) : Int) := by
      intro b
      induction b with
      | nil => rfl
      | cons u b ih => rw [List.map_cons, List.sum_cons, ih, sizes]; omega
    rw [e2]
    omega

theorem kidSizes_one (ss : List ByteArray) : kidSizes ss 1 = 1 := by
  unfold kidSizes
  cases ss <;> simp

theorem kidSizes_nil (ss : List ByteArray) (h : ss = []) : kidSizes ss 1 = kidSizes ss 0 := by
  subst h; rfl

theorem sizeRes_le (l : B) : -1 ≤ sizeRes l ∧ sizeRes l ≤ 60 := by
  unfold sizeRes
  cases h : termOf l with
  | none => simp
  | some t =>
    have := (termOf_ok l t h).2
    simp only
    omega

theorem kidSum_le : ∀ l : List ByteArray, (∀ s ∈ l, 0 ≤ sizeRes s.data.toList) → 0 ≤ (l.map fun s => sizeRes s.data.toList).sum ∧ (l.map fun s => sizeRes s.data.toList).sum ≤ 60 * l.length
  | [], _ => by simp
  | s :: l, h => by
    have h1 := kidSum_le l (fun x hx => h x (List.mem_cons_of_mem _ hx))
    have h2 := sizeRes_le s.data.toList
    have h3 := h s (List.mem_cons_self ..)
    rw [List.map_cons, List.sum_cons, List.length_cons]
    omega

theorem kids_valid (l : B) (T : Term) (h : termOf l = some T) : ∀ s ∈ (kidsRes l).1.drop 1, 0 ≤ sizeRes s.data.toList := by
  obtain ⟨h1, h2⟩ := termOf_ok l T h
  have h3 := (termOf_sorted l T h).1
  unfold kidsRes
  rw [h]
  cases T with
  | nm a => simp
  | ix i => simp
  | lam t =>
    rw [ok] at h1
    rw [Rt.size] at h2
    obtain ⟨z1, z2⟩ := swp_ok (lOpen sK0) 1 0 (lOpen_ok sK0 k0_name) t 0 (by omega) h1
    have z3 : ok 0 (swp (lOpen sK0) 0 t) = true := z2
    have hz := sizeRes_text (sort (swp (lOpen sK0) 0 t)) (by rw [ok_sort]; exact z3) (by rw [size_sort, z1]; omega) (sort_sort 0 _ z3)
    intro s hs
    simp at hs
    subst hs
    show 0 ≤ sizeRes (text (sort (swp (lOpen sK0) 0 t)))
    rw [hz]; omega
  | app t b =>
    obtain ⟨s1, s2⟩ := sort_app t b 0 h1 h3
    rw [ok, Bool.and_eq_true] at h1
    rw [Rt.size] at h2
    have ht := sizeRes_text t h1.1 (by omega) s1
    have hb : ∀ u ∈ b, sizeRes (text u) = size u := fun u hu => sizeRes_text u ((oks_mem 0 b).1 h1.2 u hu) (by have := size_mem b u hu; omega) (s2 u hu)
    intro s hs
    have hs' : s = tb t ∨ ∃ u ∈ b, tb u = s := by simpa using hs
    rcases hs' with rfl | ⟨u, hu, rfl⟩
    · show 0 ≤ sizeRes (text t)
      rw [ht]; omega
    · show 0 ≤ sizeRes (text u)
      rw [hb u hu]; omega

theorem kids_le (l : B) (T : Term) (h : termOf l = some T) : ∀ k, k ≤ (kidsRes l).1.length → 0 ≤ kidSizes (kidsRes l).1 k ∧ kidSizes (kidsRes l).1 k ≤ 1000000000 := by
  intro k hk
  have h1 := kids_valid l T h
  have h2 := kidsRes_len l
  generalize (kidsRes l).1 = ss at *
  unfold kidSizes
  have h3 := kidSum_le ((ss.take k).drop 1) (fun s hs => h1 s (by
    obtain ⟨j, hj⟩ := List.mem_iff_getElem?.1 hs
    rw [List.getElem?_drop, List.getElem?_take] at hj
    split at hj
    · exact List.mem_iff_getElem?.2 ⟨j, by rw [List.getElem?_drop]; exact hj⟩
    · cases hj))
  have h4 : ((ss.take k).drop 1).length ≤ 1000000 := by rw [List.length_drop, List.length_take]; omega
  omega

theorem kids_short (l : B) : ∀ s ∈ (kidsRes l).1, s.size ≤ 4000 := by
  unfold kidsRes
  cases h : termOf l with
  | none => simp
  | some T =>
    obtain ⟨h1, h2⟩ := termOf_ok l T h
    cases T with
    | nm a => simp
    | ix i => simp
    | lam t =>
      rw [ok] at h1
      rw [Rt.size] at h2
      obtain ⟨z1, z2⟩ := swp_ok (lOpen sK0) 1 0 (lOpen_ok sK0 k0_name) t 0 (by omega) h1
      have z3 := text_size 0 _ z2
      intro s hs
      have hs' : s = ⟨#[108, 97, 109]⟩ ∨ s = tb (sort (swp (lOpen sK0) 0 t)) := by simpa using hs
      rcases hs' with rfl | rfl
      · decide
      · show (text (sort (swp (lOpen sK0) 0 t))).toArray.size ≤ 4000
        rw [List.size_toArray, text_sort_len]; omega
    | app t b =>
      rw [ok, Bool.and_eq_true] at h1
      rw [Rt.size] at h2
      intro s hs
      have hs' : s = ⟨#[97, 112, 112]⟩ ∨ s = tb t ∨ ∃ u ∈ b, tb u = s := by simpa using hs
      rcases hs' with rfl | rfl | ⟨u, hu, rfl⟩
      · decide
      · have := text_size 0 t h1.1
        show (text t).toArray.size ≤ 4000
        rw [List.size_toArray]; omega
      · have := text_size 0 u ((oks_mem 0 b).1 h1.2 u hu)
        have := size_mem b u hu
        show (text u).toArray.size ≤ 4000
        rw [List.size_toArray]; omega

theorem openRes_size (l a : B) : (openRes l a).1.length ≤ 4000 := by
  unfold openRes
  cases h : termOf l with
  | none => simp
  | some T =>
    obtain ⟨h1, h2⟩ := termOf_ok l T h
    cases T with
    | nm s => simp
    | ix i => simp
    | app t b => simp
    | lam t =>
      simp only
      split
      · rename_i hc
        rw [ok] at h1
        rw [Rt.size] at h2
        obtain ⟨z1, z2⟩ := swp_ok (lOpen a) 1 0 (lOpen_ok a hc.1) t 0 (by omega) h1
        have z3 := text_size 0 _ z2
        simp only [text_sort_len]
        omega
      · simp

mutual
/-- Sorted or not ahead of a change of leaves: behind it what is sorted is the same. -/
theorem sort_swp (L : Nat → Term → Term) (a b : Nat) (h : LeafOk L a b) : ∀ (t : Term) (k : Nat), k + size t ≤ 100 → ok (k + a) t = true → sort (swp L k (sort t)) = sort (swp L k t)
  | .nm s, k, _, _ => rfl
  | .ix n, k, _, _ => rfl
  | .lam t, k, hk, ho => by
    rw [Rt.size] at hk; rw [ok] at ho
    rw [sort, swp, swp, sort, sort, sort_swp L a b h t (k + 1) (by omega) (by rw [show k + 1 + a = k + a + 1 by omega]; exact ho)]
  | .app t l, k, hk, ho => by
    rw [Rt.size] at hk; rw [ok, Bool.and_eq_true] at ho
    rw [sort, swp, swp, sort, sort, sort_swp L a b h t k (by omega) ho.1]
    congr 1
    have h1 := sorts_swp L a b h l k (by omega) ho.2
    have h2 := (swps_ok L a b h l k (by omega) ho.2).2
    have hp : (sorts (swps L k (sortBag (sorts l)))).Perm (sorts (swps L k l)) := by
      rw [sorts_map, swps_map, sorts_map (swps L k l), swps_map]
      refine (((sortBag_perm (sorts l)).map (swp L k)).map sort).trans ?_
      rw [sorts_map, List.map_map, List.map_map, List.map_map]
      rw [show ((sort ∘ swp L k) ∘ sort) = fun u => sort (swp L k (sort u)) from rfl, show (sort ∘ swp L k) = fun u => sort (swp L k u) from rfl, h1]
    exact sortBag_unique (k + b) _ _ (by rw [oks_sorts]; exact h2) ((sortBag_perm _).trans hp) (sortBag_asc _)
theorem sorts_swp (L : Nat → Term → Term) (a b : Nat) (h : LeafOk L a b) : ∀ (l : List Term) (k : Nat), k + sizes l ≤ 100 → oks (k + a) l = true → l.map (fun u => sort (swp L k (sort u))) = l.map (fun u => sort (swp L k u))
  | [], k, _, _ => rfl
  | t :: l, k, hk, ho => by
    rw [sizes] at hk; rw [oks, Bool.and_eq_true] at ho
    rw [List.map_cons, List.map_cons, sort_swp L a b h t k (by omega) ho.1, sorts_swp L a b h l k (by omega) ho.2]
end

mutual
theorem open_bind (a : B) : ∀ (t : Term) (k : Nat), ok k t = true → swp (lOpen a) k (swp (lBind a) k t) = t
  | .nm s, k, _ => by
    by_cases e : s = a
    · simp [swp, lBind, lOpen, e]
    · simp [swp, lBind, lOpen, e]
  | .ix n, k, ho => by
    simp only [ok, decide_eq_true_eq] at ho
    have : n ≠ k := by omega
    simp [swp, lBind, lOpen, this]
  | .lam t, k, ho => by rw [ok] at ho; rw [swp, swp, open_bind a t (k + 1) ho]
  | .app t b, k, ho => by rw [ok, Bool.and_eq_true] at ho; rw [swp, swp, open_bind a t k ho.1, opens_bind a b k ho.2]
theorem opens_bind (a : B) : ∀ (b : List Term) (k : Nat), oks k b = true → swps (lOpen a) k (swps (lBind a) k b) = b
  | [], k, _ => rfl
  | t :: l, k, ho => by rw [oks, Bool.and_eq_true] at ho; rw [swps, swps, open_bind a t k ho.1, opens_bind a l k ho.2]
end

mutual
theorem bind_open (a : B) : ∀ (t : Term) (k : Nat), a ∉ names t → swp (lBind a) k (swp (lOpen a) k t) = t
  | .nm s, k, h => by
    have : s ≠ a := by rintro rfl; exact h (by simp [names])
    simp [swp, lBind, lOpen, this]
  | .ix n, k, _ => by
    by_cases e : n = k
    · simp [swp, lBind, lOpen, e]
    · simp [swp, lBind, lOpen, e]
  | .lam t, k, h => by rw [names] at h; rw [swp, swp, bind_open a t (k + 1) h]
  | .app t b, k, h => by
    rw [names, List.mem_append, not_or] at h
    rw [swp, swp, bind_open a t k h.1, binds_open a b k h.2]
theorem binds_open (a : B) : ∀ (b : List Term) (k : Nat), a ∉ namesL b → swps (lBind a) k (swps (lOpen a) k b) = b
  | [], k, _ => rfl
  | t :: l, k, h => by
    rw [namesL, List.mem_append, not_or] at h
    rw [swps, swps, bind_open a t k h.1, binds_open a l k h.2]
end

mutual
theorem names_bind (a : B) : ∀ (t : Term) (k : Nat), a ∉ names (swp (lBind a) k t)
  | .nm s, k => by
    by_cases e : s = a
    · simp [swp, lBind, e, names]
    · have : a ≠ s := fun h => e h.symm
      simp [swp, lBind, e, names, this]
  | .ix n, k => by simp [swp, lBind, names]
  | .lam t, k => by rw [swp, names]; exact names_bind a t (k + 1)
  | .app t b, k => by rw [swp, names, List.mem_append, not_or]; exact ⟨names_bind a t k, namesL_bind a b k⟩
theorem namesL_bind (a : B) : ∀ (b : List Term) (k : Nat), a ∉ namesL (swps (lBind a) k b)
  | [], k => by simp [swps, namesL]
  | t :: l, k => by rw [swps, namesL, List.mem_append, not_or]; exact ⟨names_bind a t k, namesL_bind a l k⟩
end

theorem namesL_mem (x : B) : ∀ b : List Term, x ∈ namesL b ↔ ∃ u ∈ b, x ∈ names u
  | [] => by simp [namesL]
  | t :: l => by rw [namesL, List.mem_append, namesL_mem x l]; simp

mutual
theorem names_sort (x : B) : ∀ t : Term, x ∈ names (sort t) ↔ x ∈ names t
  | .nm s => Iff.rfl
  | .ix n => Iff.rfl
  | .lam t => by rw [sort, names, names, names_sort x t]
  | .app t b => by
    rw [sort, names, names, List.mem_append, List.mem_append, names_sort x t, ← namesL_sorts x b, namesL_mem, namesL_mem]
    have : ∀ u, u ∈ sortBag (sorts b) ↔ u ∈ sorts b := fun u => (sortBag_perm _).mem_iff
    simp only [this]
theorem namesL_sorts (x : B) : ∀ b : List Term, x ∈ namesL (sorts b) ↔ x ∈ namesL b
  | [] => Iff.rfl
  | t :: l => by rw [sorts, namesL, namesL, List.mem_append, List.mem_append, names_sort x t, namesL_sorts x l]
end

/-- What is bound is opened. -/
theorem bind_then (l a o : B) (h : bindRes l a = (o, true)) : openRes o a = (l, true) ∧ sizeRes o = sizeRes l + 1 := by
  unfold bindRes at h
  cases hl : termOf l with
  | none => rw [hl] at h; simp at h
  | some t =>
    rw [hl] at h
    obtain ⟨h1, h2⟩ := termOf_ok l t hl
    obtain ⟨h3, h4⟩ := termOf_sorted l t hl
    simp only at h
    split at h
    · rename_i hc
      simp only [Prod.mk.injEq, and_true] at h
      obtain ⟨z1, z2⟩ := swp_ok (lBind a) 0 1 (lBind_ok a 0) t 0 (by omega) h1
      have z2' : ok 1 (swp (lBind a) 0 t) = true := z2
      have ho : ok 0 (.lam (swp (lBind a) 0 t)) = true := by rw [ok]; exact z2'
      have hz : size (.lam (swp (lBind a) 0 t)) = 1 + size t := by rw [Rt.size, z1]
      have ht := termOf_text (.lam (swp (lBind a) 0 t)) ho (by omega)
      rw [if_pos (by omega), h] at ht
      refine ⟨?_, ?_⟩
      · unfold openRes
        rw [ht, sort]
        have hn : a ∉ names (sort (swp (lBind a) 0 t)) := by rw [names_sort]; exact names_bind a t 0
        simp only
        rw [if_pos ⟨hc.1, List.count_eq_zero.2 hn⟩, sort_swp (lOpen a) 1 0 (lOpen_ok a hc.1) _ 0 (by rw [z1]; omega) z2', open_bind a t 0 h1, h3, h4]
      · rw [sizeRes_valid _ _ ht, sizeRes_valid _ _ hl, size_sort, hz]; omega
    · simp at h

/-- What is opened is bound. -/
theorem open_then (l a o : B) (h : openRes l a = (o, true)) : bindRes o a = (l, true) ∧ sizeRes o = sizeRes l - 1 := by
  unfold openRes at h
  cases hl : termOf l with
  | none => rw [hl] at h; simp at h
  | some T =>
    rw [hl] at h
    obtain ⟨h1, h2⟩ := termOf_ok l T hl
    obtain ⟨h3, h4⟩ := termOf_sorted l T hl
    cases T with
    | nm s => simp at h
    | ix i => simp at h
    | app t b => simp at h
    | lam t =>
      simp only at h
      split at h
      · rename_i hc
        simp only [Prod.mk.injEq, and_true] at h
        have h1' : ok 1 t = true := by rw [ok] at h1; exact h1
        rw [Rt.size] at h2
        obtain ⟨z1, z2⟩ := swp_ok (lOpen a) 1 0 (lOpen_ok a hc.1) t 0 (by omega) h1'
        have z2' : ok 0 (swp (lOpen a) 0 t) = true := z2
        have ht := termOf_text (swp (lOpen a) 0 t) z2' (by omega)
        rw [if_pos (by omega), h] at ht
        refine ⟨?_, ?_⟩
        · unfold bindRes
          rw [ht]
          simp only
          have hs := sort_swp (lBind a) 0 1 (lBind_ok a 0) (swp (lOpen a) 0 t) 0 (by rw [z1]; omega) z2'
          rw [bind_open a t 0 (List.count_eq_zero.1 hc.2)] at hs
          rw [if_pos ⟨hc.1, by rw [size_sort, z1]; omega⟩, sort, hs, ← sort, h3, h4]
        · rw [sizeRes_valid _ _ ht, sizeRes_valid _ _ hl, size_sort, z1, Rt.size]; omega
      · simp at h

end Go.Proofs.YtomaknmemhpghaaGreatDoor

/-! What more laws of stage 1 say of terms: names, degrees, renamed terms, bags. -/
namespace Go.Proofs.YtomaknmemhpghaaGreatDoor
open Go.RowKit Rt Go.Lib

theorem degRes_of (l a : B) (t : Term) (h : termOf l = some t) (ha : isName a = true) : degRes l a = ((names t).count a : Nat) := by
  unfold degRes; rw [h]; simp only; rw [if_pos ha]

theorem namesRes_of (l : B) (t : Term) (h : termOf l = some t) : namesRes l = (bys (nmL t), true) := by
  unfold namesRes; rw [h]

theorem namesL_perm {l m : List Term} (h : m.Perm l) (x : B) : (namesL m).count x = (namesL l).count x := by
  have e : ∀ l : List Term, (namesL l).count x = (l.map fun u => (names u).count x).sum := by
    intro l
    induction l with
    | nil => rfl
    | cons u l ih => rw [namesL, List.count_append, ih, List.map_cons, List.sum_cons]
  rw [e, e]
  exact (h.map _).sum_nat

mutual
theorem count_sort (x : B) : ∀ t : Term, (names (sort t)).count x = (names t).count x
  | .nm s => rfl
  | .ix n => rfl
  | .lam t => by rw [sort, names, names, count_sort x t]
  | .app t b => by rw [sort, names, names, List.count_append, List.count_append, count_sort x t, namesL_perm (sortBag_perm _) x, counts_sort x b]
theorem counts_sort (x : B) : ∀ b : List Term, (namesL (sorts b)).count x = (namesL b).count x
  | [] => rfl
  | t :: l => by rw [sorts, namesL, namesL, List.count_append, List.count_append, count_sort x t, counts_sort x l]
end

mutual
/-- How often a name is in a renamed term. -/
theorem count_ren (a b : B) (x : B) : ∀ (t : Term) (k : Nat), (names (swp (lRen a b) k t)).count x = (if x = b then (names t).count a else 0) + (if x = a then 0 else (names t).count x)
  | .nm s, k => by
    rw [swp, lRen]
    by_cases e : s = a
    · subst e
      rw [if_pos rfl]
      by_cases e2 : x = b
      · subst e2
        by_cases e3 : x = s
        · subst e3; simp [names]
        · have e4 : s ≠ x := fun h => e3 h.symm
          simp [names, e3, e4]
      · have e5 : b ≠ x := fun h => e2 h.symm
        by_cases e3 : x = s
        · subst e3; simp [names, e2, e5]
        · have e4 : s ≠ x := fun h => e3 h.symm
          simp [names, e2, e3, e4, e5]
    · rw [if_neg e]
      by_cases e3 : x = a
      · subst e3
        simp [names, e]
      · simp [names, e, e3]
  | .ix n, k => by simp [swp, lRen, names]
  | .lam t, k => by rw [swp, names, names]; exact count_ren a b x t (k + 1)
  | .app t l, k => by
    rw [swp, names, names, List.count_append, List.count_append, List.count_append, count_ren a b x t k, counts_ren a b x l k]
    split <;> split <;> omega
theorem counts_ren (a b : B) (x : B) : ∀ (l : List Term) (k : Nat), (namesL (swps (lRen a b) k l)).count x = (if x = b then (namesL l).count a else 0) + (if x = a then 0 else (namesL l).count x)
  | [], k => by simp [swps, namesL]
  | t :: l, k => by
    rw [swps, namesL, namesL, List.count_append, List.count_append, List.count_append, count_ren a b x t k, counts_ren a b x l k]
    split <;> split <;> omega
end

theorem renRes_size (l a b : B) : (renRes l a b).1.length ≤ 4000 := by
  unfold renRes
  cases h : termOf l with
  | none => simp
  | some t =>
    obtain ⟨h1, h2⟩ := termOf_ok l t h
    simp only
    split
    · rename_i hc
      obtain ⟨z1, z2⟩ := swp_ok (lRen a b) 0 0 (lRen_ok a b hc.2 0) t 0 (by omega) h1
      have z3 := text_size 0 _ z2
      simp only [text_sort_len]
      omega
    · simp

/-- Renamed terms have renamed names. -/
theorem ren_then (l a b o : B) (h : renRes l a b = (o, true)) : ∃ t, termOf l = some t ∧ isName a = true ∧ isName b = true ∧ sizeRes o = sizeRes l ∧
    degRes o b = degRes l a + (if a = b then 0 else degRes l b) ∧ (a ≠ b → degRes o a = 0) := by
  unfold renRes at h
  cases hl : termOf l with
  | none => rw [hl] at h; simp at h
  | some t =>
    rw [hl] at h
    obtain ⟨h1, h2⟩ := termOf_ok l t hl
    simp only at h
    split at h
    · rename_i hc
      simp only [Prod.mk.injEq, and_true] at h
      obtain ⟨z1, z2⟩ := swp_ok (lRen a b) 0 0 (lRen_ok a b hc.2 0) t 0 (by omega) h1
      have z2' : ok 0 (swp (lRen a b) 0 t) = true := z2
      have ht := termOf_text (swp (lRen a b) 0 t) z2' (by omega)
      rw [if_pos (by omega), h] at ht
      refine ⟨t, rfl, hc.1, hc.2, ?_, ?_, ?_⟩
      · rw [sizeRes_valid _ _ ht, sizeRes_valid _ _ hl, size_sort, z1]
      · rw [degRes_of _ _ _ ht hc.2, degRes_of _ _ _ hl hc.1, degRes_of _ _ _ hl hc.2, count_sort, count_ren, if_pos rfl]
        by_cases e : a = b
        · subst e; simp
        · have e2 : b ≠ a := fun h => e h.symm
          rw [if_neg e2, if_neg e]; omega
      · intro e
        rw [degRes_of _ _ _ ht hc.1, count_sort, count_ren, if_neg e, if_pos rfl]
        rfl
    · simp at h

/-- A bound name is gone. -/
theorem bind_gone (l a o : B) (h : bindRes l a = (o, true)) : degRes o a = 0 := by
  unfold bindRes at h
  cases hl : termOf l with
  | none => rw [hl] at h; simp at h
  | some t =>
    rw [hl] at h
    obtain ⟨h1, h2⟩ := termOf_ok l t hl
    simp only at h
    split at h
    · rename_i hc
      simp only [Prod.mk.injEq, and_true] at h
      obtain ⟨z1, z2⟩ := swp_ok (lBind a) 0 1 (lBind_ok a 0) t 0 (by omega) h1
      have ho : ok 0 (.lam (swp (lBind a) 0 t)) = true := by rw [ok]; exact z2
      have hz : size (.lam (swp (lBind a) 0 t)) = 1 + size t := by rw [Rt.size, z1]
      have ht := termOf_text (.lam (swp (lBind a) 0 t)) ho (by omega)
      rw [if_pos (by omega), h] at ht
      rw [degRes_of _ _ _ ht hc.1, count_sort, names, List.count_eq_zero.2 (names_bind a t 0)]
      rfl
    · simp at h

theorem degRes_le (l a : B) : -1 ≤ degRes l a ∧ degRes l a ≤ 60 := by
  unfold degRes
  cases h : termOf l with
  | none => simp
  | some t =>
    have h1 := (termOf_ok l t h).2
    have h2 : (names t).count a ≤ (names t).length := List.count_le_length
    have h3 := names_len t
    simp only
    split
    · omega
    · simp

theorem degRes_pos (l a : B) (h : 0 ≤ degRes l a) : ∃ t, termOf l = some t ∧ isName a = true := by
  unfold degRes at h
  cases hl : termOf l with
  | none => rw [hl] at h; simp at h
  | some t =>
    rw [hl] at h
    simp only at h
    split at h
    · rename_i hc; exact ⟨t, rfl, hc⟩
    · simp at h

theorem namesRes_true (l : B) (ss : List ByteArray) (h : namesRes l = (ss, true)) : ∃ t, termOf l = some t ∧ ss = bys (nmL t) := by
  unfold namesRes at h
  cases hl : termOf l with
  | none => rw [hl] at h; simp at h
  | some t =>
    rw [hl] at h
    simp only [Prod.mk.injEq, and_true] at h
    exact ⟨t, rfl, h.symm⟩

theorem nodup_take {l : List B} (h : l.Nodup) (k : Nat) (x : B) (hx : l[k]? = some x) : x ∉ l.take k := by
  intro hm
  obtain ⟨j, hj⟩ := List.mem_iff_getElem?.1 hm
  rw [List.getElem?_take] at hj
  split at hj
  · rename_i hjk
    obtain ⟨h1, h2⟩ := List.getElem?_eq_some_iff.1 hx
    obtain ⟨h3, h4⟩ := List.getElem?_eq_some_iff.1 hj
    have := (List.getElem_inj h).1 (h4.trans h2.symm)
    omega
  · cases hj

theorem texts_bys {w : World} {c B : Nat} {A : Option Addr} {l : List Rt.B} (h : w.ownsRow B 9 1 (.slice A l.length c) l.length (strv (bys l))) : Texts w A (bys l) := by
  have h' : w.ownsRow B 9 1 (.slice A (bys l).length c) (bys l).length (strv (bys l)) := by rw [bys_len]; exact h
  exact Texts.row h'

theorem own_cap2 {w : World} {c B n : Nat} {A : Option Addr} {vs : List Value} (h : w.ownsRow B 9 1 (.slice A n c) n vs) : n ≤ c ∨ n = 0 := by
  rcases Nat.eq_zero_or_pos n with h0 | h0
  · exact .inr h0
  · obtain ⟨g, _, _, _, h3, _⟩ := own_cells h h0
    exact .inl h3

theorem kidsRes_true (l : B) (ss : List ByteArray) (h : kidsRes l = (ss, true)) : ∃ t, termOf l = some t := by
  unfold kidsRes at h
  cases hl : termOf l with
  | none => rw [hl] at h; simp at h
  | some t => exact ⟨t, rfl⟩

/-- The parts of a term. -/
def kidsOf : Term → List ByteArray
  | .lam t => [⟨#[108, 97, 109]⟩, tb (sort (swp (lOpen sK0) 0 t))]
  | .app t b => ⟨#[97, 112, 112]⟩ :: tb t :: b.map tb
  | .nm _ => []
  | .ix _ => []

theorem kidsRes_of (l : B) (T : Term) (h : termOf l = some T) : kidsRes l = (kidsOf T, true) := by
  unfold kidsRes
  rw [h]
  cases T <;> rfl

theorem valid_of_size (l : B) (h : 0 ≤ sizeRes l) : (termOf l).isSome = true := by
  unfold sizeRes at h
  cases hl : termOf l with
  | none => rw [hl] at h; simp at h
  | some t => rfl

theorem q9_name : isName [113, 57] = true := by decide

theorem text_of_app (t : Term) (b : List Term) : text (.app t b) = [40, 97, 112, 112, 32] ++ text t ++ [32] ++ bagT b ++ [41] := by
  simp [text, ofTerm, textT, textL, bagT, sApp]

/-- The bag of a term, sorted again. -/
theorem kids_bag (l : B) (t : Term) (b : List Term) (h : termOf l = some (.app t b)) : bagRes (b.map tb) = (bagT b, true) ∧ l = [40, 97, 112, 112, 32] ++ text t ++ [32] ++ bagT b ++ [41] := by
  obtain ⟨h1, h2⟩ := termOf_ok l _ h
  obtain ⟨h3, h4⟩ := termOf_sorted l _ h
  obtain ⟨s1, s2⟩ := sort_app t b 0 h1 h3
  rw [ok, Bool.and_eq_true] at h1
  rw [Rt.size] at h2
  have hp := size_pos t
  have hto : ∀ u ∈ b, termOf (text u) = some u := fun u hu => by
    have h5 := termOf_text u ((oks_mem 0 b).1 h1.2 u hu) (by have := size_mem b u hu; omega)
    rw [if_pos (by have := size_mem b u hu; omega), s2 u hu] at h5
    exact h5
  have hts : ∀ c : List Term, (∀ u ∈ c, termOf (text u) = some u) → termsOf (c.map tb) = some c := by
    intro c
    induction c with
    | nil => intro _; rfl
    | cons u c ih =>
      intro hc
      rw [List.map_cons, termsOf]
      show (match termOf (text u) with | none => none | some t => (termsOf (c.map tb)).map (t :: ·)) = _
      rw [hc u (by simp), ih (fun x hx => hc x (by simp [hx]))]
      rfl
  refine ⟨?_, by rw [← text_of_app]; exact h4.symm⟩
  have hsb : sortBag b = b := by
    rw [sort] at h3
    injection h3 with _ h6
    have hse : sorts b = b := by
      have : ∀ c : List Term, (∀ u ∈ c, sort u = u) → sorts c = c := by
        intro c
        induction c with
        | nil => intro _; rfl
        | cons u c ih => intro hc; rw [sorts, hc u (by simp), ih (fun x hx => hc x (by simp [hx]))]
      exact this b s2
    rw [hse] at h6
    exact h6
  unfold bagRes
  rw [hts b hto]
  simp only
  rw [if_pos (by omega), hsb]

end Go.Proofs.YtomaknmemhpghaaGreatDoor
