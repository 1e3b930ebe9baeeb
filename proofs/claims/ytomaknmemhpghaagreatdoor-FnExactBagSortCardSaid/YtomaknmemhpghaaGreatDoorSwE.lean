/- The program's TermRename and TermBind. -/
import Derived.Test.YtomaknmemhpghaaGreatDoorSwD
namespace Go.Proofs.YtomaknmemhpghaaGreatDoor
open Go.RowKit Rt Go.Lib
open Go.ChangeMaps Go.MapKept Go.Maps Go.WideMaps

/-- What TermRename tells. -/
def renRes (l a b : B) : B × Bool := match termOf l with
  | some t => if isName a = true ∧ isName b = true then (text (sort (swp (lRen a b) 0 t)), true) else ([], false)
  | none => ([], false)

/-- What TermBind tells. -/
def bindRes (l a : B) : B × Bool := match termOf l with
  | some t => if isName a = true ∧ size t + 1 ≤ 60 then (text (sort (.lam (swp (lBind a) 0 t))), true) else ([], false)
  | none => ([], false)

theorem termOf_ok (l : B) (t : Term) (h : termOf l = some t) : ok 0 t = true ∧ size t ≤ 60 := by
  obtain ⟨h1, _, _, h4⟩ := loose_some l t (termOf_some l t h).1
  exact ⟨h1, h4⟩

set_option maxHeartbeats 1600000 in
set_option maxRecDepth 100000 in
theorem implTermRename (s : ByteArray) (a b : B) (hs : s.size ≤ maxLen) (ha : a.length ≤ maxLen) (hb : b.length ≤ maxLen) (w : World) :
    Calls Tryz.prog 47 #[.string s, .string ⟨a.toArray⟩, .string ⟨b.toArray⟩] w fun e w' => e = .returned (.tuple #[st (renRes s.data.toList a b).1, .bool (renRes s.data.toList a b).2]) ∧ Below w.heap.size w w' := by
  have HC : Hid (∀ w1, Pool (fun _ => False) w1 (w.heap.size + 1) w.heap.size 0 (.map []) → Calls Tryz.prog 52 #[.pointer (some ⟨w.heap.size + 1, 0, none⟩), .string s] w1 (PartPost (fun _ => False) w1 (w.heap.size + 1) w.heap.size 0 4000 (termOf s.data.toList))) :=
    fun w1 hP => read_any _ _ _ 0 _ s hs w1 (by omega) hP
  have HA : Hid (∀ W, Calls Tryz.prog 64 #[.string ⟨a.toArray⟩] W fun e w' => e = .returned (.bool (isName a)) ∧ W = w') := fun W => isName_any a W ha
  have HB : Hid (∀ W, Calls Tryz.prog 64 #[.string ⟨b.toArray⟩] W fun e w' => e = .returned (.bool (isName b)) ∧ W = w') := fun W => isName_any b W hb
  have HT : Hid (renRes s.data.toList a b = match termOf s.data.toList with | some t => if isName a = true ∧ isName b = true then (text (sort (swp (lRen a b) 0 t)), true) else ([], false) | none => ([], false)) := rfl
  have HOK : Hid (∀ t, termOf s.data.toList = some t → ok 0 t = true ∧ size t ≤ 60) := fun t h => termOf_ok _ t h
  have HST : Hid (∀ t, termOf s.data.toList = some t → sort t = t) := fun t h => (termOf_sorted _ t h).1
  generalize renRes s.data.toList a b = x at HT ⊢
  generalize termOf s.data.toList = r at HC HT HOK HST
  have HN : Hid (isName a = false ∨ (isName a = true ∧ isName b = false) ∨ (isName a = true ∧ isName b = true)) := by
    show _ ∨ _
    cases isName a <;> cases isName b <;> simp
  go_enter Tryz.func47, Tryz.ntmps47
  go_wp2_with fail
  refine (newTermPool_any _).mono ?_
  rintro e w1 ⟨rfl, hb1, hz, hP⟩
  have HB1 := Lib.hid hb1
  have HC1 := Lib.hid (HC.out w1 hP)
  clear hb1 hP hz
  go_wp2_with fail
  refine HC1.out.mono ?_
  intro e w2 hq
  cases r with
  | none =>
    obtain ⟨hg, rfl⟩ := hq
    have HG := Lib.hid hg
    clear hg
    go_wp2_with fail
    go_ret2
    exact ⟨by rw [HT.out]; rfl, below_pool HB1.out HG.out⟩
  | some t =>
    obtain ⟨hg, v, D, n, rfl, hn, hv, hP⟩ := hq
    obtain ⟨bv, _, _, _, rfl, -, -⟩ := RepPF.head _ _ hv
    obtain ⟨o1, o2⟩ := HOK.out t rfl
    have HS1 : Hid (sort t = t) := HST.out t rfl
    have HG := Lib.hid hg
    have HV := Lib.hid hv
    have HP := Lib.hid hP
    have HO := Lib.hid o1
    clear hg hv hP o1 HST
    rcases HN.out with h1 | ⟨h1, h2⟩ | ⟨h1, h2⟩
    · rw [h1] at HA
      have HX : Hid (x = ([], false)) := by show _ = _; rw [HT.out]; simp [h1]
      clear h1
      go_wp2_with (go_at_call 64; refine (HA.out _).mono ?_; rintro e w' ⟨rfl, rfl⟩)
      go_ret2
      exact ⟨by rw [HX.out]; rfl, below_pool HB1.out HG.out⟩
    · rw [h1] at HA
      rw [h2] at HB
      have HX : Hid (x = ([], false)) := by show _ = _; rw [HT.out]; simp [h2]
      clear h1 h2
      go_wp2_with (first
        | (go_at_call 64; (with_reducible refine (HA.out _).mono ?_); rintro e w' ⟨rfl, rfl⟩)
        | (go_at_call 64; (with_reducible refine (HB.out _).mono ?_); rintro e w' ⟨rfl, rfl⟩))
      go_ret2
      exact ⟨by rw [HX.out]; rfl, below_pool HB1.out HG.out⟩
    · rw [h1] at HA
      rw [h2] at HB
      have HX : Hid (x = (text (sort (swp (lRen a b) 0 t)), true)) := by show _ = _; rw [HT.out]; simp [h1, h2]
      have HR := Lib.hid (rename_any _ t a b _ _ _ n D w2 h2 o2 HO.out HS1.out (by omega) HV.out HP.out)
      generalize sort (swp (lRen a b) 0 t) = r at HR HX
      clear h1 h2
      go_wp2_with (first
        | (go_at_call 64; (with_reducible refine (HA.out _).mono ?_); rintro e w' ⟨rfl, rfl⟩)
        | (go_at_call 64; (with_reducible refine (HB.out _).mono ?_); rintro e w' ⟨rfl, rfl⟩)
        | (go_at_call 83; refine HR.out.mono ?_; rintro e w3 ⟨hg3, v3, D3, n3, rfl, -, hv3, -⟩; obtain ⟨b3, i3, fp3, q3, rfl, h63, -⟩ := RepPF.head _ _ hv3; obtain ⟨-, c31, -, -⟩ := h63; rw [st_eq] at c31; have HG3 := Lib.hid hg3; clear hg3 hv3))
      refine bodyPost_ret (v := .tuple #[.string ⟨(text r).toArray⟩, .bool true]) ?_ rfl ?_
      · simp [results, Tryz.results47, go_sem]
      · exact ⟨by rw [HX.out]; rfl, below_pool HB1.out (HG.out.trans HG3.out)⟩

set_option maxHeartbeats 1600000 in
set_option maxRecDepth 100000 in
theorem implTermBind (s : ByteArray) (a : B) (hs : s.size ≤ maxLen) (ha : a.length ≤ maxLen) (w : World) :
    Calls Tryz.prog 26 #[.string s, .string ⟨a.toArray⟩] w fun e w' => e = .returned (.tuple #[st (bindRes s.data.toList a).1, .bool (bindRes s.data.toList a).2]) ∧ Below w.heap.size w w' := by
  have HC : Hid (∀ w1, Pool (fun _ => False) w1 (w.heap.size + 1) w.heap.size 0 (.map []) → Calls Tryz.prog 52 #[.pointer (some ⟨w.heap.size + 1, 0, none⟩), .string s] w1 (PartPost (fun _ => False) w1 (w.heap.size + 1) w.heap.size 0 4000 (termOf s.data.toList))) :=
    fun w1 hP => read_any _ _ _ 0 _ s hs w1 (by omega) hP
  have HA : Hid (∀ W, Calls Tryz.prog 64 #[.string ⟨a.toArray⟩] W fun e w' => e = .returned (.bool (isName a)) ∧ W = w') := fun W => isName_any a W ha
  have HT : Hid (bindRes s.data.toList a = match termOf s.data.toList with | some t => if isName a = true ∧ size t + 1 ≤ 60 then (text (sort (.lam (swp (lBind a) 0 t))), true) else ([], false) | none => ([], false)) := rfl
  have HOK : Hid (∀ t, termOf s.data.toList = some t → ok 0 t = true ∧ size t ≤ 60) := fun t h => termOf_ok _ t h
  have HST : Hid (∀ t, termOf s.data.toList = some t → sort t = t) := fun t h => (termOf_sorted _ t h).1
  generalize bindRes s.data.toList a = x at HT ⊢
  generalize termOf s.data.toList = r at HC HT HOK HST
  go_enter Tryz.func26, Tryz.ntmps26
  go_wp2_with fail
  refine (newTermPool_any _).mono ?_
  rintro e w1 ⟨rfl, hb1, hz, hP⟩
  have HB1 := Lib.hid hb1
  have HC1 := Lib.hid (HC.out w1 hP)
  clear hb1 hP hz
  go_wp2_with fail
  refine HC1.out.mono ?_
  intro e w2 hq
  cases r with
  | none =>
    obtain ⟨hg, rfl⟩ := hq
    have HG := Lib.hid hg
    clear hg
    go_wp2_with fail
    go_ret2
    exact ⟨by rw [HT.out]; rfl, below_pool HB1.out HG.out⟩
  | some t =>
    obtain ⟨hg, v, D, n, rfl, hn, hv, hP⟩ := hq
    obtain ⟨bv, _, _, _, rfl, h6, -⟩ := RepPF.head _ _ hv
    obtain ⟨-, -, c2, -⟩ := h6
    obtain ⟨o1, o2⟩ := HOK.out t rfl
    have HS1 : Hid (sort t = t) := HST.out t rfl
    have HG := Lib.hid hg
    have HV := Lib.hid hv
    have HP := Lib.hid hP
    have HO := Lib.hid o1
    clear hg hv hP o1 HST
    cases h1 : isName a
    · rw [h1] at HA
      have HX : Hid (x = ([], false)) := by show _ = _; rw [HT.out]; simp [h1]
      clear h1
      go_wp2_with (go_at_call 64; refine (HA.out _).mono ?_; rintro e w' ⟨rfl, rfl⟩)
      go_ret2
      exact ⟨by rw [HX.out]; rfl, below_pool HB1.out HG.out⟩
    · rw [h1] at HA
      by_cases h2 : size t + 1 ≤ 60
      · have HX : Hid (x = (text (sort (.lam (swp (lBind a) 0 t))), true)) := by show _ = _; rw [HT.out]; simp [h1, h2]
        have HR := Lib.hid (bind_any _ t a _ _ _ n D w2 o2 HO.out HS1.out (by omega) HV.out HP.out)
        generalize sort (.lam (swp (lBind a) 0 t)) = r at HR HX
        clear h1
        go_wp2_with (first
          | (go_at_call 64; (with_reducible refine (HA.out _).mono ?_); rintro e w' ⟨rfl, rfl⟩)
          | (go_at_call 65; refine HR.out.mono ?_; rintro e w3 ⟨hg3, v3, D3, n3, rfl, -, hv3, -⟩; obtain ⟨b3, i3, fp3, q3, rfl, h63, -⟩ := RepPF.head _ _ hv3; obtain ⟨-, c31, -, -⟩ := h63; rw [st_eq] at c31; have HG3 := Lib.hid hg3; clear hg3 hv3))
        refine bodyPost_ret (v := .tuple #[.string ⟨(text r).toArray⟩, .bool true]) ?_ rfl ?_
        · simp [results, Tryz.results26, go_sem]
        · exact ⟨by rw [HX.out]; rfl, below_pool HB1.out (HG.out.trans HG3.out)⟩
      · have HX : Hid (x = ([], false)) := by show _ = _; rw [HT.out]; simp [h1, h2]
        clear h1
        go_wp2_with (go_at_call 64; refine (HA.out _).mono ?_; rintro e w' ⟨rfl, rfl⟩)
        go_ret2
        exact ⟨by rw [HX.out]; rfl, below_pool HB1.out HG.out⟩

end Go.Proofs.YtomaknmemhpghaaGreatDoor
