/- The walks of the model's l1Degree and TermDegree. -/
import Derived.Test.YtomaknmemhpghaaGreatDoorDgC
namespace Go.Proofs.YtomaknmemhpghaaGreatDoor
open Go.RowKit Rt

theorem count_take (l : List B) (k : Nat) (s a : B) (h : l[k]? = some s) : (l.take (k + 1)).count a = (l.take k).count a + (if s = a then 1 else 0) := by
  rw [List.take_add_one, h]
  by_cases e : s = a <;> simp [e]

set_option maxHeartbeats 1600000 in
set_option maxRecDepth 100000 in
theorem l1Degree_any (F : Nat → Prop) (t : Term) (a : B) (v : Value) (w : World) (hs : size t ≤ 60) (hr : RepSF F w (ofTerm t) v) :
    Calls Tryz.prog 79 #[v, .string ⟨a.toArray⟩] w fun e w' => e = .returned (.int .i64 ((atoms t).count a : Nat)) ∧ Below w.heap.size w w' := by
  obtain ⟨u, A, n, c, rfl⟩ := repS_shape (RepSF.rep _ _ hr)
  have hbox := Blk.new w 55 #[.string ⟨u.toArray⟩, .slice A n c]
  have hW := below_two w (.cells #[.string ⟨u.toArray⟩, .slice A n c] 55) (.cells #[] 9)
  have hown : ((w.alloc (.cells #[.string ⟨u.toArray⟩, .slice A n c] 55)).alloc (.cells #[] 9)).ownsRow w.heap.size 9 1 (.slice (some ⟨w.heap.size + 1, 0, none⟩) 0 0) 0 (sv_ []) := by
    have h := own_new (w.alloc (.cells #[.string ⟨u.toArray⟩, .slice A n c] 55)) 9 #[] 0 1 w.heap.size (by simp) rfl (by decide)
    have e : (w.alloc (.cells #[.string ⟨u.toArray⟩, .slice A n c] 55)).heap.size = w.heap.size + 1 := by simp
    rw [e] at h
    exact h
  have hal := atoms_len t
  have HC : Hid (Calls Tryz.prog 76 #[.agg #[.string ⟨u.toArray⟩, .slice A n c], .slice (some ⟨w.heap.size + 1, 0, none⟩) 0 0] ((w.alloc (.cells #[.string ⟨u.toArray⟩, .slice A n c] 55)).alloc (.cells #[] 9)) (AtomsPost w.heap.size ((w.alloc (.cells #[.string ⟨u.toArray⟩, .slice A n c] 55)).alloc (.cells #[] 9)) (w.heap.size + 1) (atoms t))) := by
    have h := l1Atoms_any w.heap.size 60 t (.agg #[.string ⟨u.toArray⟩, .slice A n c]) [] (w.heap.size + 1) 0 _ hs (by simp; omega) (by simp; omega) (RepSF.move (fun k hk hk2 => hW.block k hk2) (fun k _ hk => hk) _ _ hr) hown
    rw [List.nil_append] at h
    exact h
  generalize atoms t = la at HC hal ⊢
  have HB := Lib.hid hW
  clear hr hW hown
  go_enter Tryz.func79, Tryz.ntmps79
  go_wp2_with (go_at_call 76; refine HC.out.mono ?_; rintro e w3 ⟨hg3, g3, c3, rfl, hown3, -⟩; have HB3 : Hid (Below w.heap.size w w3) := HB.out.grown hg3 (by simp; omega) (fun k hk => by injection hk with hk; omega); have H3 := Lib.hid hown3; clear hg3 hown3)
  go_loop [6, 7] (fun nv iv => ∃ k : Nat, k ≤ la.length ∧ iv = .int .i64 k ∧ nv = .int .i64 ((la.take k).count a : Nat)) (fun _ iv => la.length - (intOf iv).toNat)
  case atStart => exact ⟨0, Nat.zero_le _, rfl, rfl⟩
  case round =>
    obtain ⟨k, hk, rfl, rfl⟩ := hrel
    by_cases hlt : k < la.length
    · obtain ⟨g4, e1, _, _, _, _, h5⟩ := own_cells H3.out (by omega)
      injection e1 with e1
      injection e1 with e1
      subst e1
      obtain ⟨s, hsk⟩ : ∃ s, la[k]? = some s := ⟨_, List.getElem?_eq_getElem hlt⟩
      have e0 : w3.cell? ⟨g3, k, none⟩ = some (.string ⟨s.toArray⟩) := h5 k _ (by unfold sv_; rw [List.getElem?_map, hsk]; rfl)
      have hct := count_take la k s a hsk
      have hcl : (la.take k).count a ≤ 60 := by have := List.count_le_length (a := a) (l := la.take k); simp at this; omega
      have HCT := Lib.hid hct
      clear h5 hct hsk
      by_cases hq : s = a
      · have hq1 : (s == a) = true := by simp [hq]
        have HCT2 : Hid ((la.take (k + 1)).count a = (la.take k).count a + 1) := by show _ = _; rw [HCT.out, if_pos hq]
        generalize (la.take k).count a = cn at hcl HCT2 ⊢
        clear hq
        go_wp2_with fail
        go_round
        case rel => exact ⟨k + 1, by omega, by go_num, by rw [HCT2.out]; go_num⟩
        case measure => simp [intOf]; omega
      · have hq1 : (s == a) = false := by simpa using hq
        have HCT2 : Hid ((la.take (k + 1)).count a = (la.take k).count a) := by show _ = _; rw [HCT.out, if_neg hq]; rfl
        generalize (la.take k).count a = cn at hcl HCT2 ⊢
        clear hq
        go_wp2_with fail
        go_round
        case rel => exact ⟨k + 1, by omega, by go_num, by rw [HCT2.out]⟩
        case measure => simp [intOf]; omega
    · obtain rfl : k = la.length := by omega
      rw [List.take_of_length_le (Nat.le_refl _)]
      go_wp2_with fail
      go_ret
      exact ⟨rfl, HB3.out⟩

set_option maxHeartbeats 1600000 in
set_option maxRecDepth 100000 in
theorem specTermDegree (hBag : BagSaid) (s : ByteArray) (a : B) (hs : s.size ≤ maxLen) (ha : a.length ≤ maxLen) (w : World) :
    Calls Tryz.prog 39 #[.string s, .string ⟨a.toArray⟩] w fun e w' => e = .returned (.int .i64 (degRes s.data.toList a)) ∧ Below w.heap.size w w' := by
  have HC := Lib.hid (l1Term_any hBag s hs w)
  have HA : Hid (∀ W, Calls Tryz.prog 66 #[.string ⟨a.toArray⟩] W fun e w' => e = .returned (.bool (isName a)) ∧ W = w') := fun W => l1Name_any ⟨a.toArray⟩ W (by simpa [ByteArray.size] using ha)
  have HT : Hid (degRes s.data.toList a = match termOf s.data.toList with | some t => if isName a = true then ((names t).count a : Int) else -1 | none => -1) := rfl
  have HOK : Hid (∀ t, termOf s.data.toList = some t → ok 0 t = true ∧ size t ≤ 60) := fun t h => termOf_ok _ t h
  generalize degRes s.data.toList a = x at HT ⊢
  generalize termOf s.data.toList = r at HC HT HOK
  go_enter Tryz.func39, Tryz.ntmps39
  go_wp2_with fail
  refine HC.out.mono ?_
  intro e w2 hp
  cases r with
  | none =>
    obtain ⟨hb2, u, A, n, c, rfl⟩ := hp
    have hs2 := hb2.size
    have HB2 := Lib.hid hb2
    clear hb2
    go_wp2_with fail
    go_ret
    exact ⟨by rw [HT.out]; rfl, HB2.out.alloc hs2 _⟩
  | some t =>
    obtain ⟨hb2, v, rfl, hr⟩ := hp
    obtain ⟨u, A, n, c, rfl⟩ := repS_shape (RepSF.rep _ _ hr)
    obtain ⟨o1, o2⟩ := HOK.out t rfl
    have hs2 := hb2.size
    have HB2 := Lib.hid (hb2.alloc hs2 (.cells #[.string ⟨u.toArray⟩, .slice A n c] 55))
    have hR := RepSF.move (G := fun _ => True) (w' := w2.alloc (.cells #[.string ⟨u.toArray⟩, .slice A n c] 55)) (fun k _ hk => Below.heap_alloc w2 _ k hk) (fun _ _ _ => trivial) _ _ hr
    have hD := l1Degree_any _ t a _ _ o2 hR
    clear hb2 hr hR
    cases h1 : isName a
    · rw [h1] at HA
      have HX : Hid (x = -1) := by show _ = _; rw [HT.out]; simp [h1]
      clear h1 hD
      go_wp2_with (go_at_call 66; refine (HA.out _).mono ?_; rintro e w' ⟨rfl, rfl⟩)
      go_ret
      exact ⟨by rw [HX.out]; rfl, HB2.out⟩
    · rw [count_atoms 0 t o1 a h1] at hD
      rw [h1] at HA
      have HX : Hid (x = ((names t).count a : Int)) := by show _ = _; rw [HT.out]; simp [h1]
      have HD := Lib.hid hD
      generalize (names t).count a = cn at HD HX
      clear h1 hD o1
      go_wp2_with (first
        | (go_at_call 66; refine (HA.out _).mono ?_; rintro e w' ⟨rfl, rfl⟩)
        | (go_at_call 79; refine HD.out.mono ?_; rintro e w3 ⟨rfl, hb3⟩; have HB3 := Lib.hid hb3; clear hb3))
      go_ret
      exact ⟨by rw [HX.out]; rfl, HB2.out.trans (HB3.out.mono HB2.out.size)⟩

end Go.Proofs.YtomaknmemhpghaaGreatDoor
