/- What the law of bags says: the order does not matter. -/
import Derived.Test.YthlenhnioocbgaaGreatDoorDrH
namespace Go.Proofs.YthlenhnioocbgaaGreatDoor
open Go.RowKit Rt

theorem sortRes_text (t : Term) (ho : ok 0 t = true) (hs : size t ≤ 60) : sortRes (text t) = (text (sort t), true) ∧ termOf (text (sort t)) = some (sort t) ∧ (text (sort t)).length ≤ 4000 := by
  have h1 := loose_text t ho (by omega)
  rw [if_pos hs] at h1
  have h2 := termOf_text t ho (by omega)
  rw [if_pos hs] at h2
  refine ⟨?_, h2, ?_⟩
  · unfold sortRes; rw [h1]
  · have := text_size 0 t ho
    rw [text_sort_len]; omega

theorem termsOf_append : ∀ (xs ys : List ByteArray) (ts us : List Term), termsOf xs = some ts → termsOf ys = some us → termsOf (xs ++ ys) = some (ts ++ us)
  | [], ys, ts, us, h1, h2 => by simp [termsOf] at h1; subst h1; simpa using h2
  | x :: xs, ys, ts, us, h1, h2 => by
    rw [termsOf] at h1
    rw [List.cons_append, termsOf]
    cases hx : termOf x.data.toList with
    | none => rw [hx] at h1; cases h1
    | some t =>
      rw [hx] at h1
      simp only [Option.map_eq_some_iff] at h1
      obtain ⟨a, e1, rfl⟩ := h1
      simp only
      rw [termsOf_append xs ys a us e1 h2]
      rfl

theorem termsOf_reverse : ∀ (xs : List ByteArray) (ts : List Term), termsOf xs = some ts → termsOf xs.reverse = some ts.reverse
  | [], ts, h => by simp [termsOf] at h; subst h; rfl
  | x :: xs, ts, h => by
    rw [termsOf] at h
    cases hx : termOf x.data.toList with
    | none => rw [hx] at h; cases h
    | some t =>
      rw [hx] at h
      simp only [Option.map_eq_some_iff] at h
      obtain ⟨a, e1, rfl⟩ := h
      rw [List.reverse_cons, List.reverse_cons]
      refine termsOf_append _ _ _ _ (termsOf_reverse xs a e1) ?_
      rw [termsOf, hx]
      rfl

theorem termsOf_sorted : ∀ (xs : List ByteArray) (ts : List Term), termsOf xs = some ts → ∀ u ∈ ts, sort u = u
  | [], ts, h, u, hu => by simp [termsOf] at h; subst h; cases hu
  | x :: xs, ts, h, u, hu => by
    rw [termsOf] at h
    cases hx : termOf x.data.toList with
    | none => rw [hx] at h; cases h
    | some t =>
      rw [hx] at h
      simp only [Option.map_eq_some_iff] at h
      obtain ⟨a, e1, rfl⟩ := h
      rcases List.mem_cons.1 hu with rfl | hu
      · exact (termOf_sorted _ _ hx).1
      · exact termsOf_sorted xs a e1 u hu

theorem sorts_same : ∀ c : List Term, (∀ u ∈ c, sort u = u) → sorts c = c
  | [], _ => rfl
  | u :: c, h => by rw [sorts, h u (by simp), sorts_same c (fun x hx => h x (by simp [hx]))]

/-- The order of a bag does not matter. -/
theorem bag_turn (ss : List ByteArray) (o : B) (h : bagRes ss = (o, true)) : bagRes ss.reverse = (o, true) ∧ o.length ≤ 1000 ∧
    ∃ ks, kidsRes ([40, 97, 112, 112, 32, 119, 32] ++ o ++ [41]) = (ks, true) ∧ ks.length = ss.length + 2 := by
  unfold bagRes at h
  cases hts : termsOf ss with
  | none => rw [hts] at h; simp at h
  | some ts =>
    rw [hts] at h
    simp only at h
    split at h
    · rename_i hc
      simp only [Prod.mk.injEq, and_true] at h
      obtain ⟨l1, l2, l3⟩ := termsOf_ok ss ts hts
      have l4 := termsOf_sorted ss ts hts
      have hoks : oks 0 (sortBag ts) = true := by rw [oks_perm 0 _ _ (sortBag_perm ts)]; exact l2
      have hsz : sizes (sortBag ts) = sizes ts := sizes_perm _ _ (sortBag_perm ts)
      have hol : o.length ≤ 1000 := by
        have := bagT_len (sortBag ts) hoks
        rw [h, hsz] at this
        omega
      refine ⟨?_, hol, ?_⟩
      · unfold bagRes
        rw [termsOf_reverse ss ts hts]
        simp only
        have hp : (ts.reverse).Perm ts := List.reverse_perm ts
        rw [sizes_perm _ _ hp, if_pos hc, sortBag_unique 0 ts (sortBag ts.reverse) l2 ((sortBag_perm _).trans hp) (sortBag_asc _), h]
      · have hT : sort (.app (.nm [119]) (sortBag ts)) = .app (.nm [119]) (sortBag ts) := by
          rw [sort, sort, sorts_same (sortBag ts) (fun u hu => l4 u ((sortBag_perm ts).mem_iff.1 hu)), ← sortBag_unique 0 (sortBag ts) (sortBag ts) hoks (.refl _) (sortBag_asc _)]
        have hok : ok 0 (.app (.nm [119]) (sortBag ts)) = true := by rw [ok, hoks, ok]; decide
        have hs : size (.app (.nm [119]) (sortBag ts)) ≤ 60 := by rw [Rt.size, Rt.size, hsz]; omega
        have ht := termOf_text (.app (.nm [119]) (sortBag ts)) hok (by omega)
        rw [if_pos hs, hT, text_of_app, dtext_nm, h] at ht
        refine ⟨kidsOf (.app (.nm [119]) (sortBag ts)), kidsRes_of _ _ ht, ?_⟩
        rw [kidsOf, List.length_cons, List.length_cons, List.length_map, (sortBag_perm ts).length_eq, l1]
    · simp at h

end Go.Proofs.YthlenhnioocbgaaGreatDoor
