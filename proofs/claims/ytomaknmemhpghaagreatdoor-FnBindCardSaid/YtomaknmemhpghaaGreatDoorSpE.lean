/- The model's TermRename and TermBind. -/
import Derived.Test.YtomaknmemhpghaaGreatDoorSpC
import Derived.Test.YtomaknmemhpghaaGreatDoorSwE
namespace Go.Proofs.YtomaknmemhpghaaGreatDoor
open Go.RowKit Rt

theorem name_ne (a : B) (h : isName a = true) : a ≠ [] := by rintro rfl; simp [isName] at h

theorem name_dec (a : B) (h : isName a = true) (i : Nat) (hi : i < 100) : dec i ≠ a := by
  intro e
  have := dec_noName i hi
  rw [e, h] at this
  cases this

theorem atomSaid_ren (a b : B) (ha : isName a = true) (hb : isName b = true) : AtomSaid ⟨a.toArray⟩ ⟨b.toArray⟩ (-1) (lRen a b) 0 where
  nm := fun F s k w _ _ => by
    have h := swap_ren_atom a b (name_ne a ha) (name_ne b hb) F s k w
    have e : ofTerm (lRen a b k (.nm s)) = .atom (if s = a then b else s) := by unfold lRen; simp only; split <;> rfl
    rw [e]; exact h
  ix := fun F i k w _ _ hi => by
    have h := swap_ren_atom a b (name_ne a ha) (name_ne b hb) F (dec i) k w
    rw [if_neg (name_dec a ha i hi)] at h
    exact h

theorem atomSaid_bind (a : B) (ha : isName a = true) : AtomSaid ⟨a.toArray⟩ ⟨#[]⟩ (-1) (lBind a) 0 where
  nm := fun F s k w hk _ => by
    have h := swap_bind_atom a (name_ne a ha) F s k w hk
    have e : ofTerm (lBind a k (.nm s)) = .atom (if s = a then dec k else s) := by unfold lBind; simp only; split <;> rfl
    rw [e]; exact h
  ix := fun F i k w hk _ hi => by
    have h := swap_bind_atom a (name_ne a ha) F (dec i) k w hk
    rw [if_neg (name_dec a ha i hi)] at h
    exact h

/-- The text of a term is read as this term. -/
theorem loose_text (t : Term) (ho : ok 0 t = true) (hs : size t ≤ 100) : loose (text t) = if size t ≤ 60 then some t else none := by
  have h1 := text_size 0 t ho
  have h2 := dep_size t
  have h3 : parse (text t) = some (ofTerm t) := parse_of _ (wf_ofTerm 0 t ho) (by unfold text at h1; omega) (by omega)
  rw [loose, h3]
  simp only [toTerm_of 0 t ho]

theorem termOf_text (t : Term) (ho : ok 0 t = true) (hs : size t ≤ 100) : termOf (text (sort t)) = if size t ≤ 60 then some (sort t) else none := by
  have h := loose_text (sort t) (by rw [ok_sort]; exact ho) (by rw [size_sort]; exact hs)
  rw [size_sort] at h
  rw [termOf, h]
  by_cases hz : size t ≤ 60
  · simp [hz, sort_sort 0 t ho]
  · simp [hz]

set_option maxHeartbeats 1600000 in
set_option maxRecDepth 100000 in
theorem specTermRename (hBag : BagSaid) (s : ByteArray) (a b : B) (hs : s.size ≤ maxLen) (ha : a.length ≤ maxLen) (hb : b.length ≤ maxLen) (w : World) :
    Calls Tryz.prog 46 #[.string s, .string ⟨a.toArray⟩, .string ⟨b.toArray⟩] w fun e w' => e = .returned (.tuple #[st (renRes s.data.toList a b).1, .bool (renRes s.data.toList a b).2]) ∧ Below w.heap.size w w' := by
  have HC := Lib.hid (l1Term_any hBag s hs w)
  have HA : Hid (∀ W, Calls Tryz.prog 66 #[.string ⟨a.toArray⟩] W fun e w' => e = .returned (.bool (isName a)) ∧ W = w') := fun W => l1Name_any ⟨a.toArray⟩ W (by simpa [ByteArray.size] using ha)
  have HB : Hid (∀ W, Calls Tryz.prog 66 #[.string ⟨b.toArray⟩] W fun e w' => e = .returned (.bool (isName b)) ∧ W = w') := fun W => l1Name_any ⟨b.toArray⟩ W (by simpa [ByteArray.size] using hb)
  have HT : Hid (renRes s.data.toList a b = match termOf s.data.toList with | some t => if isName a = true ∧ isName b = true then (text (sort (swp (lRen a b) 0 t)), true) else ([], false) | none => ([], false)) := rfl
  have HOK : Hid (∀ t, termOf s.data.toList = some t → ok 0 t = true ∧ size t ≤ 60) := fun t h => termOf_ok _ t h
  generalize renRes s.data.toList a b = x at HT ⊢
  generalize termOf s.data.toList = r at HC HT HOK
  have HN : Hid (isName a = false ∨ (isName a = true ∧ isName b = false) ∨ (isName a = true ∧ isName b = true)) := by
    show _ ∨ _
    cases isName a <;> cases isName b <;> simp
  go_enter Tryz.func46, Tryz.ntmps46
  go_wp2_with fail
  refine HC.out.mono ?_
  intro e w2 hp
  cases r with
  | none =>
    obtain ⟨hb2, u, A, n, c, rfl⟩ := hp
    have hs2 := hb2.size
    have HB2 := Lib.hid hb2
    clear hb2
    go_wp2_with fail
    go_ret2
    exact ⟨by rw [HT.out]; rfl, HB2.out.alloc hs2 _⟩
  | some t =>
    obtain ⟨hb2, v, rfl, hr⟩ := hp
    obtain ⟨u, A, n, c, rfl⟩ := repS_shape (RepSF.rep _ _ hr)
    obtain ⟨o1, o2⟩ := HOK.out t rfl
    have hs2 := hb2.size
    have HB2 := Lib.hid (hb2.alloc hs2 (.cells #[.string ⟨u.toArray⟩, .slice A n c] 55))
    have HR := Lib.hid (RepSF.move (G := fun _ => True) (w' := w2.alloc (.cells #[.string ⟨u.toArray⟩, .slice A n c] 55)) (fun k _ hk => Below.heap_alloc w2 _ k hk) (fun _ _ _ => trivial) _ _ hr)
    have hsz : w.heap.size + 1 ≤ (w2.alloc (.cells #[.string ⟨u.toArray⟩, .slice A n c] 55)).heap.size := by simp; omega
    have HO := Lib.hid o1
    clear hb2 hr o1
    rcases HN.out with h1 | ⟨h1, h2⟩ | ⟨h1, h2⟩
    · rw [h1] at HA
      have HX : Hid (x = ([], false)) := by show _ = _; rw [HT.out]; simp [h1]
      clear h1
      go_wp2_with (go_at_call 66; refine (HA.out _).mono ?_; rintro e w' ⟨rfl, rfl⟩)
      go_ret2
      exact ⟨by rw [HX.out]; rfl, HB2.out⟩
    · rw [h1] at HA
      rw [h2] at HB
      have HX : Hid (x = ([], false)) := by show _ = _; rw [HT.out]; simp [h2]
      clear h1 h2
      go_wp2_with (first
        | (go_at_call 66; (with_reducible refine (HA.out _).mono ?_); rintro e w' ⟨rfl, rfl⟩)
        | (go_at_call 66; (with_reducible refine (HB.out _).mono ?_); rintro e w' ⟨rfl, rfl⟩))
      go_ret2
      exact ⟨by rw [HX.out]; rfl, HB2.out⟩
    · rw [h1] at HA
      rw [h2] at HB
      obtain ⟨z1, z2⟩ := swp_ok (lRen a b) 0 0 (lRen_ok a b h2 0) t 0 (by omega) HO.out
      have HX : Hid (x = (text (sort (swp (lRen a b) 0 t)), true)) := by show _ = _; rw [HT.out]; simp [h1, h2]
      have hSW := Lib.hid (l1Swap_any ⟨a.toArray⟩ ⟨b.toArray⟩ (-1) (lRen a b) 0 (atomSaid_ren a b h1 h2) 60)
      have htv := termOf_text (swp (lRen a b) 0 t) z2 (by omega)
      rw [if_pos (by omega)] at htv
      have z3 := text_size _ _ z2
      have z4 := text_sort_len (swp (lRen a b) 0 t)
      have HZ2 := Lib.hid z2
      have HWF := Lib.hid (wf_ofTerm 0 (sort (swp (lRen a b) 0 t)) (by rw [ok_sort]; exact z2))
      have hzu : size (swp (lRen a b) 0 t) ≤ 60 := by omega
      have HSW : Hid (∀ (F : Nat → Prop) (v : Value) (W : World), RepSF F W (ofTerm t) v → Calls Tryz.prog 68 #[v, .string ⟨a.toArray⟩, .int .i64 (-1), .string ⟨b.toArray⟩, .int .i64 0] W (TreePost F W (ofTerm (swp (lRen a b) 0 t)))) := fun F v W hr => hSW.out F t v 0 W o2 (by omega) HO.out hr
      have HV : Hid (∀ W, Calls Tryz.prog 17 #[.string ⟨(text (sort (swp (lRen a b) 0 t))).toArray⟩] W fun e w' => e = .returned (.bool true) ∧ Below W.heap.size W w') := by
        intro W
        have h := specTermValid hBag ⟨(text (sort (swp (lRen a b) 0 t))).toArray⟩ (by simp [ByteArray.size, maxLen]; omega) W
        simp only [htv] at h
        exact h
      clear h1 h2 z1 z2 hSW htv
      generalize hu : swp (lRen a b) 0 t = tu at *
      clear hu
      have hts : (textT (ofTerm (sort tu))).length ≤ 1000000 := by unfold text at z3 z4; omega
      have hl4 : (text tu).length ≤ 10000 := by omega
      clear z3 z4
      go_wp2_with (first
        | (go_at_call 66; (with_reducible refine (HA.out _).mono ?_); rintro e w' ⟨rfl, rfl⟩)
        | (go_at_call 66; (with_reducible refine (HB.out _).mono ?_); rintro e w' ⟨rfl, rfl⟩))
      generalize w2.alloc (.cells #[.string ⟨u.toArray⟩, .slice A n c] 55) = W2 at *
      refine (HSW.out _ _ W2 HR.out).mono ?_
      rintro e w3 ⟨hb3, v3, rfl, hr3⟩
      obtain ⟨u3, A3, n3, c3, rfl⟩ := repS_shape (RepSF.rep _ _ hr3)
      have HB3 := Lib.hid (HB2.out.trans (hb3.mono (by omega)))
      have HR3 := Lib.hid hr3
      clear hb3 hr3
      go_wp2_with fail
      refine (l1Sort_any hBag 60 _ 0 tu _ w3 hzu HZ2.out hl4 HR3.out).mono ?_
      rintro e w4 ⟨hb4, v4, rfl, hr4⟩
      obtain ⟨u4, A4, n4, c4, rfl⟩ := repS_shape (RepSF.rep _ _ hr4)
      have HB4 := Lib.hid (HB3.out.trans (hb4.mono HB3.out.size))
      have HR4 := Lib.hid (RepSF.rep _ _ hr4)
      clear hb4 hr4
      go_wp2_with fail
      refine (l1Text_any _ (ofTerm (sort tu)) _ _ (Nat.le_refl _) HR4.out HWF.out hts).mono ?_
      rintro e w5 ⟨rfl, hb5⟩
      have HB5 := Lib.hid (HB4.out.trans (hb5.mono HB4.out.size))
      clear hb5
      rw [show st (textT (ofTerm (sort tu))) = .string ⟨(text (sort tu)).toArray⟩ from rfl]
      go_wp2_with (go_at_call 17; refine (HV.out _).mono ?_; rintro e w6 ⟨rfl, hb6⟩; have HB6 := Lib.hid hb6; clear hb6)
      go_ret2
      exact ⟨by rw [HX.out]; rfl, HB5.out.trans (HB6.out.mono HB5.out.size)⟩

set_option maxHeartbeats 1600000 in
set_option maxRecDepth 100000 in
theorem specTermBind (hBag : BagSaid) (s : ByteArray) (a : B) (hs : s.size ≤ maxLen) (ha : a.length ≤ maxLen) (w : World) :
    Calls Tryz.prog 27 #[.string s, .string ⟨a.toArray⟩] w fun e w' => e = .returned (.tuple #[st (bindRes s.data.toList a).1, .bool (bindRes s.data.toList a).2]) ∧ Below w.heap.size w w' := by
  have HC := Lib.hid (l1Term_any hBag s hs w)
  have HA : Hid (∀ W, Calls Tryz.prog 66 #[.string ⟨a.toArray⟩] W fun e w' => e = .returned (.bool (isName a)) ∧ W = w') := fun W => l1Name_any ⟨a.toArray⟩ W (by simpa [ByteArray.size] using ha)
  have HT : Hid (bindRes s.data.toList a = match termOf s.data.toList with | some t => if isName a = true ∧ size t + 1 ≤ 60 then (text (sort (.lam (swp (lBind a) 0 t))), true) else ([], false) | none => ([], false)) := rfl
  have HOK : Hid (∀ t, termOf s.data.toList = some t → ok 0 t = true ∧ size t ≤ 60) := fun t h => termOf_ok _ t h
  generalize bindRes s.data.toList a = x at HT ⊢
  generalize termOf s.data.toList = r at HC HT HOK
  go_enter Tryz.func27, Tryz.ntmps27
  go_wp2_with fail
  refine HC.out.mono ?_
  intro e w2 hp
  cases r with
  | none =>
    obtain ⟨hb2, u, A, n, c, rfl⟩ := hp
    have hs2 := hb2.size
    have HB2 := Lib.hid hb2
    clear hb2
    go_wp2_with fail
    go_ret2
    exact ⟨by rw [HT.out]; rfl, HB2.out.alloc hs2 _⟩
  | some t =>
    obtain ⟨hb2, v, rfl, hr⟩ := hp
    obtain ⟨u, A, n, c, rfl⟩ := repS_shape (RepSF.rep _ _ hr)
    obtain ⟨o1, o2⟩ := HOK.out t rfl
    have hs2 := hb2.size
    have HB2 := Lib.hid (hb2.alloc hs2 (.cells #[.string ⟨u.toArray⟩, .slice A n c] 55))
    have HR := Lib.hid (RepSF.move (G := fun _ => True) (w' := w2.alloc (.cells #[.string ⟨u.toArray⟩, .slice A n c] 55)) (fun k _ hk => Below.heap_alloc w2 _ k hk) (fun _ _ _ => trivial) _ _ hr)
    have hsz : w.heap.size + 1 ≤ (w2.alloc (.cells #[.string ⟨u.toArray⟩, .slice A n c] 55)).heap.size := by simp; omega
    have HO := Lib.hid o1
    clear hb2 hr o1
    cases h1 : isName a
    · rw [h1] at HA
      have HX : Hid (x = ([], false)) := by show _ = _; rw [HT.out]; simp [h1]
      clear h1
      go_wp2_with (go_at_call 66; refine (HA.out _).mono ?_; rintro e w' ⟨rfl, rfl⟩)
      go_ret2
      exact ⟨by rw [HX.out]; rfl, HB2.out⟩
    · rw [h1] at HA
      obtain ⟨z1, z2⟩ := swp_ok (lBind a) 0 1 (lBind_ok a 0) t 0 (by omega) HO.out
      have z2l : ok 0 (.lam (swp (lBind a) 0 t)) = true := by rw [ok]; exact z2
      have hSW := Lib.hid (l1Swap_any ⟨a.toArray⟩ ⟨#[]⟩ (-1) (lBind a) 0 (atomSaid_bind a h1) 60)
      have zl : size (.lam (swp (lBind a) 0 t)) = size t + 1 := by rw [Rt.size, z1, Nat.add_comm]
      have htv := termOf_text (.lam (swp (lBind a) 0 t)) z2l (by omega)
      rw [zl] at htv
      have HXX : Hid (x = if size t + 1 ≤ 60 then (text (sort (.lam (swp (lBind a) 0 t))), true) else ([], false)) := by show _ = _; rw [HT.out]; simp [h1]
      have z3 := text_size _ _ z2l
      have z4 := text_sort_len (.lam (swp (lBind a) 0 t))
      have HZ2 := Lib.hid z2l
      have HWF := Lib.hid (wf_ofTerm 0 (sort (.lam (swp (lBind a) 0 t))) (by rw [ok_sort]; exact z2l))
      have hzu : size (.lam (swp (lBind a) 0 t)) ≤ 61 := by omega
      have HSW : Hid (∀ (F : Nat → Prop) (v : Value) (W : World), RepSF F W (ofTerm t) v → Calls Tryz.prog 68 #[v, .string ⟨a.toArray⟩, .int .i64 (-1), .string ⟨#[]⟩, .int .i64 0] W (TreePost F W (ofTerm (swp (lBind a) 0 t)))) := fun F v W hr => hSW.out F t v 0 W o2 (by omega) HO.out hr
      have HV : Hid (∀ W, Calls Tryz.prog 17 #[.string ⟨(text (sort (.lam (swp (lBind a) 0 t)))).toArray⟩] W fun e w' => e = .returned (.bool (decide (size t + 1 ≤ 60))) ∧ Below W.heap.size W w') := by
        intro W
        have h := specTermValid hBag ⟨(text (sort (.lam (swp (lBind a) 0 t)))).toArray⟩ (by simp [ByteArray.size, maxLen]; omega) W
        simp only [htv] at h
        have e1 : (if size t + 1 ≤ 60 then some (sort (.lam (swp (lBind a) 0 t))) else none).isSome = decide (size t + 1 ≤ 60) := by split <;> simp_all
        rw [e1] at h
        exact h
      clear h1 z1 z2 z2l hSW htv zl
      generalize swp (lBind a) 0 t = tu at *
      have hts : (textT (ofTerm (sort (.lam tu)))).length ≤ 1000000 := by unfold text at z3 z4; omega
      have hl4 : (text (.lam tu)).length ≤ 10000 := by omega
      clear z3 z4
      go_wp2_with (go_at_call 66; (with_reducible refine (HA.out _).mono ?_); rintro e w' ⟨rfl, rfl⟩)
      generalize w2.alloc (.cells #[.string ⟨u.toArray⟩, .slice A n c] 55) = W2 at *
      refine (HSW.out _ _ W2 HR.out).mono ?_
      rintro e w3 ⟨hb3, v3, rfl, hr3⟩
      obtain ⟨u3, A3, n3, c3, rfl⟩ := repS_shape (RepSF.rep _ _ hr3)
      have HB3 := Lib.hid (HB2.out.trans (hb3.mono (by omega)))
      have HR3 := Lib.hid hr3
      have hs3 : w.heap.size ≤ w3.heap.size := HB3.out.size
      clear hb3 hr3
      go_wp2_with fail
      refine (l1List_any _ [108, 97, 109] ⟨w3.heap.size, 0, none⟩ 1 [ofTerm tu] [.string ⟨u3.toArray⟩, .slice A3 n3 c3] _ (by simp) (by simp) (cell_two_new w3 _ _ _) (RepFF.one (RepSF.move (fun k _ hk => Below.heap_alloc _ _ _ hk) (fun k hk _ => hk) _ _ HR3.out))).mono ?_
      rintro e w3b ⟨hb3b, v3b, rfl, hr3b⟩
      obtain ⟨u3b, A3b, n3b, c3b, rfl⟩ := repS_shape (RepSF.rep _ _ hr3b)
      have HB3b := Lib.hid ((HB3.out.alloc HB3.out.size (.cells #[.string ⟨u3.toArray⟩, .slice A3 n3 c3] 55)).trans (hb3b.mono (by simp; omega)))
      have HR3b := Lib.hid hr3b
      clear hb3b hr3b
      go_wp2_with fail
      refine (l1Sort_any hBag 61 _ 0 (.lam tu) _ w3b hzu HZ2.out hl4 HR3b.out).mono ?_
      rintro e w4 ⟨hb4, v4, rfl, hr4⟩
      obtain ⟨u4, A4, n4, c4, rfl⟩ := repS_shape (RepSF.rep _ _ hr4)
      have HB4 := Lib.hid (HB3b.out.trans (hb4.mono HB3b.out.size))
      have HR4 := Lib.hid (RepSF.rep _ _ hr4)
      clear hb4 hr4
      go_wp2_with fail
      refine (l1Text_any _ (ofTerm (sort (.lam tu))) _ _ (Nat.le_refl _) HR4.out HWF.out hts).mono ?_
      rintro e w5 ⟨rfl, hb5⟩
      have HB5 := Lib.hid (HB4.out.trans (hb5.mono HB4.out.size))
      clear hb5
      rw [show st (textT (ofTerm (sort (.lam tu)))) = .string ⟨(text (sort (.lam tu))).toArray⟩ from rfl]
      by_cases h6 : size t + 1 ≤ 60
      · have e6 : decide (size t + 1 ≤ 60) = true := by simp [h6]
        rw [e6] at HV
        have HX : Hid (x = (text (sort (.lam tu)), true)) := by show _ = _; rw [HXX.out, if_pos h6]
        clear e6 h6
        go_wp2_with (go_at_call 17; refine (HV.out _).mono ?_; rintro e w6 ⟨rfl, hb6⟩; have HB6 := Lib.hid hb6; clear hb6)
        go_ret2
        exact ⟨by rw [HX.out]; rfl, HB5.out.trans (HB6.out.mono HB5.out.size)⟩
      · have e6 : decide (size t + 1 ≤ 60) = false := by simp [h6]
        rw [e6] at HV
        have HX : Hid (x = ([], false)) := by show _ = _; rw [HXX.out, if_neg h6]
        clear e6 h6
        go_wp2_with (go_at_call 17; refine (HV.out _).mono ?_; rintro e w6 ⟨rfl, hb6⟩; have HB6 := Lib.hid hb6; clear hb6)
        go_ret2
        exact ⟨by rw [HX.out]; rfl, HB5.out.trans (HB6.out.mono HB5.out.size)⟩

end Go.Proofs.YtomaknmemhpghaaGreatDoor
