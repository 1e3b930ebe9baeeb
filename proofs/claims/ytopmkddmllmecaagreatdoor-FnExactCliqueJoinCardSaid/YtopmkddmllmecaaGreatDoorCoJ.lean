/- The model's l5Coherent at any two terms, and Coherent, Uniform and Clique. -/
import Derived.Test.YtopmkddmllmecaaGreatDoorCoI
import Derived.Test.YtopmkddmllmecaaGreatDoorCoB
import Derived.Test.YtopmkddmllmecaaGreatDoorCoG
import Derived.Test.YtopmkddmllmecaaGreatDoorSpecK
set_option linter.unusedSimpArgs false
set_option linter.unusedVariables false
namespace Go.Proofs.YtopmkddmllmecaaGreatDoor
open Go.RowKit Rt Go.Lib

theorem atom_ne (m : Nat) (t : Term) (s : B) (ho : ok m t = true) (h : atomT t = some s) : s ≠ [] := by
  cases t with
  | nm a =>
    simp [atomT] at h; subst h
    rw [ok] at ho
    rintro rfl
    simp [isName] at ho
  | ix n =>
    simp [atomT] at h; subst h
    unfold dec; split <;> simp
  | lam t => simp [atomT] at h
  | app t l => simp [atomT] at h

theorem atoms_coh (s t : Term) (m m' : Nat) (h0 : ok m s = true) (h1 : ok m' t = true) (h : atomT s ≠ none ∨ atomT t ≠ none) : (atomOf s == atomOf t) = cohB s t ∧ (atomOf s ≠ [] ∨ atomOf t ≠ []) := by
  cases hs : atomT s with
  | some a =>
    have ha := atom_ne m s a h0 hs
    cases ht : atomT t with
    | some b =>
      simp only [atomOf, hs, ht]
      rw [cohB_atom hs ht]
      exact ⟨by rw [Bool.eq_iff_iff]; simp, .inl ha⟩
    | none =>
      simp only [atomOf, hs, ht]
      rw [cohB_atom_no hs ht]
      exact ⟨by simpa using ha, .inl ha⟩
  | none =>
    cases ht : atomT t with
    | some b =>
      have hb := atom_ne m' t b h1 ht
      simp only [atomOf, hs, ht]
      rw [cohB_no_atom hs ht]
      exact ⟨by simpa using hb, .inr hb⟩
    | none => rcases h with h | h <;> contradiction

theorem l5Coh_any (n : Nat) (hn : n ≤ 10000) : ∀ (s t : Term) (m m' : Nat) (va vb : Value) (w : World), size s ≤ n → size t ≤ n → ok m s = true → ok m' t = true → RepS w (ofTerm s) va → RepS w (ofTerm t) vb →
    Calls Tryz.prog 61 #[va, vb] w fun e w' => e = .returned (.bool (cohB s t)) ∧ Below w.heap.size w w' := by
  induction n with
  | zero => intro s t m m' va vb w h; have := size_pos s; omega
  | succ n ih =>
    have ih := ih (by omega)
    intro s t m m' va vb w hs ht o0 o1 hr0 hr1
    by_cases ha : atomT s ≠ none ∨ atomT t ≠ none
    · obtain ⟨e, hne⟩ := atoms_coh s t m m' o0 o1 ha
      obtain ⟨A, a, b, rfl⟩ := val_shape s va w hr0
      obtain ⟨C, c, d, rfl⟩ := val_shape t vb w hr1
      rw [← e]
      exact coh_atoms _ _ _ _ _ _ _ _ w hne
    · have a0 : atomT s = none := Classical.byContradiction fun h => ha (.inl h)
      have a1 : atomT t = none := Classical.byContradiction fun h => ha (.inr h)
      clear ha
      cases s with
      | nm a => simp [atomT] at a0
      | ix a => simp [atomT] at a0
      | lam s =>
        cases t with
        | nm a => simp [atomT] at a1
        | ix a => simp [atomT] at a1
        | app t l => rw [cohB_lam_app]; exact coh_heads _ _ va vb w a0 a1 hr0 hr1 rfl
        | lam t =>
          rw [cohB_lam]
          rw [size] at hs ht
          rw [ok] at o0 o1
          have IH := fun va vb w hr0 hr1 => ih s t (m + 1) (m' + 1) va vb w (by omega) (by omega) o0 o1 hr0 hr1
          cases hc : cohB s t with
          | true => rw [hc] at IH; exact coh_lams s t va vb w hr0 hr1 IH
          | false => rw [hc] at IH; exact coh_first_no _ _ va vb w a0 a1 hr0 hr1 rfl IH
      | app s l0 =>
        cases t with
        | nm a => simp [atomT] at a1
        | ix a => simp [atomT] at a1
        | lam t => rw [cohB_app_lam]; exact coh_heads _ _ va vb w a0 a1 hr0 hr1 rfl
        | app t l1 =>
          rw [cohB_app]
          rw [size] at hs ht
          rw [ok, Bool.and_eq_true] at o0 o1
          have IH := fun va vb w hr0 hr1 => ih s t m m' va vb w (by omega) (by omega) o0.1 o1.1 hr0 hr1
          have p0 := sizes_len l0
          have p1 := sizes_len l1
          cases hc : cohB s t with
          | true =>
            rw [hc] at IH
            rw [Bool.true_and]
            refine coh_apps s t l0 l1 va vb w (by omega) (by omega) hr0 hr1 IH fun u hu v hv va vb w hru hrv => ?_
            have hm : ∀ x, x ∈ l0 ++ l1 → size x ≤ n ∧ ∃ q, ok q x = true := fun x hx => by
              rcases List.mem_append.1 hx with h | h
              · exact ⟨by have := sizes_mem l0 h; omega, m, (oks_mem m l0).1 o0.2 x h⟩
              · exact ⟨by have := sizes_mem l1 h; omega, m', (oks_mem m' l1).1 o1.2 x h⟩
            obtain ⟨z1, q1, e1⟩ := hm u hu
            obtain ⟨z2, q2, e2⟩ := hm v hv
            exact ih u v q1 q2 va vb w z1 z2 e1 e2 hru hrv
          | false =>
            rw [hc] at IH
            rw [Bool.false_and]
            exact coh_first_no _ _ va vb w a0 a1 hr0 hr1 rfl IH

/-- What l1Term hands back, for a term and for none. -/
theorem loose_flat {w w' : World} {r : Option Term} {e : Ending} (h : LoosePost w r e w') : ∃ u A n c, e = .returned (.tuple #[.agg #[.string u, .slice A n c], .bool r.isSome]) ∧ Below w.heap.size w w' ∧ ∀ t, r = some t → RepSF (fun k => w.heap.size ≤ k) w' (ofTerm t) (.agg #[.string u, .slice A n c]) := by
  cases r with
  | none =>
    obtain ⟨hb, u, A, n, c, rfl⟩ := h
    exact ⟨u, A, n, c, rfl, hb, fun t h => by cases h⟩
  | some t =>
    obtain ⟨hb, v, rfl, hr⟩ := h
    obtain ⟨u, A, n, c, rfl⟩ := repS_shape (RepSF.rep _ _ hr)
    exact ⟨⟨u.toArray⟩, A, n, c, rfl, hb, fun t' h => by cases h; exact hr⟩

set_option maxHeartbeats 1600000 in
set_option maxRecDepth 100000 in
theorem specCoherent (a b : ByteArray) (w : World) (ha : a.size ≤ maxLen) (hb : b.size ≤ maxLen) :
    Calls Tryz.prog 21 #[.string a, .string b] w fun e w' => e = .returned (.bool (cohRes a b)) ∧ Below w.heap.size w w' := by
  have HA : Hid (∀ W, Calls Tryz.prog 60 #[.string a] W (LoosePost W (termOf a.data.toList))) := fun W => l1Term_any l1Bag_any a ha W
  have HB : Hid (∀ W, Calls Tryz.prog 60 #[.string b] W (LoosePost W (termOf b.data.toList))) := fun W => l1Term_any l1Bag_any b hb W
  have HRES : Hid (cohRes a b = match termOf a.data.toList with | none => false | some s => match termOf b.data.toList with | none => false | some t => cohB s t) := rfl
  have HOA : Hid (∀ s, termOf a.data.toList = some s → ok 0 s = true ∧ size s ≤ 60) := fun s h => termOf_ok _ s h
  have HOB : Hid (∀ s, termOf b.data.toList = some s → ok 0 s = true ∧ size s ≤ 60) := fun s h => termOf_ok _ s h
  generalize cohRes a b = x at *
  generalize termOf a.data.toList = r at *
  generalize termOf b.data.toList = q at *
  unfold maxLen at ha hb
  go_enter Tryz.func21, Tryz.ntmps21
  go_wp2_with fail
  refine (HA.out _).mono ?_
  intro e w2 hp
  obtain ⟨u, A, n, c, rfl, hb2, hr⟩ := loose_flat hp
  have HB2 := Lib.hid hb2
  have HR := Lib.hid hr
  clear hp hb2 hr
  have hX2 := Blk.new w2 84 #[.string u, .slice A n c]
  have HW2 := Lib.hid (below_one w2 (.cells #[.string u, .slice A n c] 84))
  go_upto_region 2 with fail
  generalize w2.alloc (.cells #[.string u, .slice A n c] 84) = W2 at *
  go_wp2_with fail
  refine (HB.out _).mono ?_
  intro e w3 hp
  obtain ⟨u', A', n', c', rfl, hb3, hr'⟩ := loose_flat hp
  have HB3 := Lib.hid (HB2.out.trans ((HW2.out.trans (hb3.mono HW2.out.size)).mono HB2.out.size))
  have hX3 := hX2.below hb3 hX2.lt
  have hk3 := Lib.hid ((below_keeps HW2.out).trans (below_keeps hb3))
  have HR' := Lib.hid hr'
  clear hp hb3 hr' hX2
  have hX4 := Blk.new w3 84 #[.string u', .slice A' n' c']
  have hX5 := hX3.alloc (.cells #[.string u', .slice A' n' c'] 84)
  have HW3 := Lib.hid (below_one w3 (.cells #[.string u', .slice A' n' c'] 84))
  clear hX3
  go_upto_region 3 with fail
  generalize w3.alloc (.cells #[.string u', .slice A' n' c'] 84) = W3 at *
  have HB4 := Lib.hid (HB3.out.trans (HW3.out.mono HB3.out.size))
  obtain ⟨q0, q1, -, -⟩ := blk_cells hX5
  obtain ⟨q2, q3, -, -⟩ := blk_cells hX4
  clear hX4 hX5
  cases r with
  | none =>
    have HX : Hid (x = false) := HRES.out
    simp only [Option.isSome_none]
    go_wp2_with fail
    all_goals
      go_ret
      exact ⟨ret_bool HX.out.symm, HB4.out⟩
  | some s =>
    cases q with
    | none =>
      have HX : Hid (x = false) := HRES.out
      simp only [Option.isSome_none, Option.isSome_some]
      go_wp2_with fail
      all_goals
        go_ret
        exact ⟨ret_bool HX.out.symm, HB4.out⟩
    | some t =>
      have HX : Hid (x = cohB s t) := HRES.out
      obtain ⟨o0, z0⟩ := HOA.out s rfl
      obtain ⟨o1, z1⟩ := HOB.out t rfl
      have hr0 := (RepSF.rep _ _ (HR.out s rfl)).keep (hk3.out.trans (below_keeps HW3.out))
      have hr1 := (RepSF.rep _ _ (HR'.out t rfl)).keep (below_keeps HW3.out)
      have HC := Lib.hid (l5Coh_any 60 (by omega) s t 0 0 _ _ W3 z0 z1 o0 o1 hr0 hr1)
      clear hr0 hr1 o0 o1 z0 z1 HR HR' HA HB HRES HOA HOB
      simp only [Option.isSome_some]
      go_wp2_with fail
      refine HC.out.mono ?_
      rintro e w5 ⟨rfl, hb5⟩
      have HB5 := Lib.hid (HB4.out.trans (hb5.mono HB4.out.size))
      clear hb5
      go_wp2_with fail
      all_goals
        go_ret
        exact ⟨ret_bool HX.out.symm, HB5.out⟩

end Go.Proofs.YtopmkddmllmecaaGreatDoor
