/- The walk of l1Term. The walks of the model's TermValid, TermSort and TermSize. -/
import Derived.Test.YtopmkddmllmecaaGreatDoorSpecL
/-! The walk of l1Term. -/
namespace Go.Proofs.YtopmkddmllmecaaGreatDoor
open Go.RowKit Rt

theorem loose_some (l : B) (t : Term) (h : loose l = some t) : ok 0 t = true ∧ (text t).length = l.length ∧ l.length ≤ 4000 ∧ size t ≤ 60 := by
  unfold loose at h
  cases hp : parse l with
  | none => rw [hp] at h; simp at h
  | some x =>
    rw [hp] at h
    simp only at h
    cases ht : toTerm 0 x with
    | none => rw [ht] at h; simp at h
    | some u =>
      rw [ht] at h
      simp only at h
      split at h
      · rename_i hs
        simp only [Option.some.injEq] at h
        subst h
        obtain ⟨_, h2, h3, h4, _⟩ := loose_facts l x u hp ht
        exact ⟨h2, h3, h4, hs⟩
      · simp at h

set_option maxHeartbeats 1600000 in
set_option maxRecDepth 100000 in
theorem l1Term_any (hBag : BagSaid) (s : ByteArray) (hm : s.size ≤ maxLen) (w : World) :
    Calls Tryz.prog 60 #[.string s] w (LoosePost w (termOf s.data.toList)) := by
  generalize hr : termOf s.data.toList = r
  have HRR := Lib.hid hr
  clear hr
  go_enter Tryz.func60, Tryz.ntmps60
  go_wp2_with fail
  have hret := Blk.new w 84 #[.string ⟨#[]⟩, .slice none 0 0]
  have hW := below_one w (.cells #[.string ⟨#[]⟩, .slice none 0 0] 84)
  generalize w.alloc (.cells #[.string ⟨#[]⟩, .slice none 0 0] 84) = W at *
  refine (l1Loose_any s hm W).mono ?_
  intro e w2 hpost
  have hlW : w.heap.size + 1 ≤ W.heap.size := hret.lt
  cases hp : loose s.data.toList with
  | none =>
    rw [hp] at hpost
    obtain ⟨hb, u, A, n, c, rfl⟩ := hpost
    have hret2 := hret.below hb hret.lt
    have hbb := hW.trans (hb.mono hW.size)
    have hlt : w.heap.size + 1 ≤ w2.heap.size := hret2.lt
    have r0 := fun o => (blk_cells (hret2.alloc o)).1
    have r1 := fun o => (blk_cells (hret2.alloc o)).2.1
    have z0 := fun o => (blk_cells (hret2.alloc o)).2.2.1
    have z1 := fun o => (blk_cells (hret2.alloc o)).2.2.2
    have HN : Hid (r = none) := by show _ = _; rw [← HRR.out, termOf, hp]
    clear hret hW hb hret2 hp
    go_wp2_with fail
    go_region
    all_goals (try go_wp2_with fail)
    all_goals
      refine bodyPost_ret (v := .tuple #[.agg #[.string u, .slice A n c], .bool false]) ?_ rfl ?_
      · simp [results, Tryz.results60, go_sem, r0, r1]
      · rw [HN.out]
        refine LoosePost.no rfl ?_
        first
          | exact Below.drew (((hbb.alloc hbb.size _).setCell (Nat.le_refl _) _).setCell (Nat.le_refl _) _)
          | exact (((hbb.alloc hbb.size _).drew).setCell (Nat.le_refl _) _).setCell (Nat.le_refl _) _
          | go_grown
  | some t =>
    rw [hp] at hpost
    obtain ⟨hb, v, rfl, hrep⟩ := hpost
    obtain ⟨u, A, n, c, rfl⟩ := repS_shape (RepSF.rep _ _ hrep)
    obtain ⟨f1, f2, f3, f4⟩ := loose_some _ _ hp
    have hret2 := (hret.below hb hret.lt).alloc (.cells #[.string ⟨u.toArray⟩, .slice A n c] 84)
    have hbox2 := Blk.new w2 84 #[.string ⟨u.toArray⟩, .slice A n c]
    have hbb := (hW.trans (hb.mono hW.size)).alloc (hW.trans (hb.mono hW.size)).size (.cells #[.string ⟨u.toArray⟩, .slice A n c] 84)
    have hlt : w.heap.size + 1 ≤ w2.heap.size := Nat.le_trans hlW hb.size
    have hlt3 : w2.heap.size + 1 ≤ (w2.alloc (.cells #[.string ⟨u.toArray⟩, .slice A n c] 84)).heap.size := by simp
    have hrep2 := RepSF.move (G := fun k => W.heap.size ≤ k ∧ k < w2.heap.size) (w' := w2.alloc (.cells #[.string ⟨u.toArray⟩, .slice A n c] 84)) (fun k _ hk => Below.heap_alloc w2 _ k hk) (fun k hk hk2 => ⟨hk, hk2⟩) _ _ hrep
    clear hret hW hb hrep
    go_upto_region 2 with fail
    generalize w2.alloc (.cells #[.string ⟨u.toArray⟩, .slice A n c] 84) = W2 at *
    have HRK : Hid (∀ V, Below W2.heap.size W2 V → RepSF (fun _ => True) V (ofTerm t) (.agg #[.string ⟨u.toArray⟩, .slice A n c])) := fun V hV => RepSF.move (fun k _ hk => hV.block k hk) (fun _ _ _ => trivial) _ _ hrep2
    have HFIN : Hid (∀ V, Below W2.heap.size W2 V → ∀ y z, RepSF (fun k => w.heap.size ≤ k) (((V.setCell ⟨w.heap.size, 0, none⟩ y).setCell ⟨w.heap.size, 1, none⟩ z)) (ofTerm t) (.agg #[.string ⟨u.toArray⟩, .slice A n c])) := by
      intro V hV y z
      refine RepSF.move ?_ ?_ _ _ hrep2
      · intro k hk hk2
        rw [Below.heap_setCell _ _ _ _ (by show k ≠ w.heap.size; omega), Below.heap_setCell _ _ _ _ (by show k ≠ w.heap.size; omega)]
        exact hV.block k hk2
      · intro k hk _
        omega
    obtain ⟨r0, r1, z0, z1⟩ := blk_cells hret2
    obtain ⟨b0, b1, y0, y1⟩ := blk_cells hbox2
    have HRET := Lib.hid hret2
    have HBOX := Lib.hid hbox2
    have HBB := Lib.hid hbb
    have hWs : w.heap.size ≤ W2.heap.size := by omega
    have hts : (textT (ofTerm (sort t))).length ≤ 1000000 := by
      have := text_sort_len t
      unfold text at this f2
      omega
    have HWF := Lib.hid (wf_ofTerm 0 (sort t) (by rw [ok_sort]; exact f1))
    have HOK := Lib.hid f1
    have HSS : Hid ((⟨s.data.toList.toArray⟩ : ByteArray) = s) := by cases s; simp [Hid]
    clear hret2 hbox2 hrep2 hbb f1
    by_cases hs : text (sort t) = s.data.toList
    · have HN : Hid (r = some t) := by show _ = _; rw [← HRR.out, termOf, hp]; simp [hs]
      have HS : Hid (textT (ofTerm (sort t)) = s.data.toList) := hs
      have hq : (s.data.toList == s.toList) = true := by rw [ByteArray.toList_eq]; simp
      clear hp hs
      go_region_with (first
        | (go_at_call 81; refine (l1Sort_any hBag 60 (fun _ => True) 0 t _ _ f4 HOK.out (by omega) (HRK.out _ (by go_grown))).mono ?_; rintro e w3 ⟨hb3, v3, rfl, hr3⟩; have hk3 : Below W2.heap.size W2 w3 := Below.trans (by go_grown) (hb3.mono (Nat.le_refl _)); have HR3 := Lib.hid (RepSF.rep _ _ hr3); have x0 := (blk_cells (HRET.out.below hk3 (by omega))).1; have x1 := (blk_cells (HRET.out.below hk3 (by omega))).2.1; have x2 := (blk_cells (HRET.out.below hk3 (by omega))).2.2.1; have x3 := (blk_cells (HRET.out.below hk3 (by omega))).2.2.2; have x4 := (blk_cells (HBOX.out.below hk3 (by omega))).1; have x5 := (blk_cells (HBOX.out.below hk3 (by omega))).2.1; clear hb3 hr3)
        | (go_at_call 66; refine (l1Text_any _ (ofTerm (sort t)) _ _ (Nat.le_refl _) HR3.out HWF.out hts).mono ?_; rintro e w4 ⟨rfl, hb4⟩; have hk4 : Below W2.heap.size W2 w4 := hk3.trans (hb4.mono hk3.size); have x6 := (blk_cells (HRET.out.below hk4 (by omega))).1; have x7 := (blk_cells (HRET.out.below hk4 (by omega))).2.1; have x8 := (blk_cells (HRET.out.below hk4 (by omega))).2.2.1; have x9 := (blk_cells (HRET.out.below hk4 (by omega))).2.2.2; have xa := (blk_cells (HBOX.out.below hk4 (by omega))).1; have xb := (blk_cells (HBOX.out.below hk4 (by omega))).2.1; clear hb4; rw [st_eq]; rw [HS.out]))
      all_goals (try go_wp2_with fail)
      all_goals
        refine bodyPost_ret (v := .tuple #[.agg #[.string ⟨u.toArray⟩, .slice A n c], .bool true]) ?_ rfl ?_
        · simp [results, Tryz.results60, go_sem, x6, x7]
        · rw [HN.out]
          exact LoosePost.yes rfl (HFIN.out w4 hk4 _ _) (((HBB.out.trans (hk4.mono hWs)).setCell (Nat.le_refl _) _).setCell (Nat.le_refl _) _)
    · have HN : Hid (r = none) := by show _ = _; rw [← HRR.out, termOf, hp]; simp [hs]
      have HS : Hid (textT (ofTerm (sort t)) = text (sort t)) := rfl
      have hq : (text (sort t) == s.toList) = false := by rw [ByteArray.toList_eq]; simpa using hs
      clear hp hs
      go_region_with (first
        | (go_at_call 81; refine (l1Sort_any hBag 60 (fun _ => True) 0 t _ _ f4 HOK.out (by omega) (HRK.out _ (by go_grown))).mono ?_; rintro e w3 ⟨hb3, v3, rfl, hr3⟩; have hk3 : Below W2.heap.size W2 w3 := Below.trans (by go_grown) (hb3.mono (Nat.le_refl _)); have HR3 := Lib.hid (RepSF.rep _ _ hr3); have x0 := (blk_cells (HRET.out.below hk3 (by omega))).1; have x1 := (blk_cells (HRET.out.below hk3 (by omega))).2.1; have x2 := (blk_cells (HRET.out.below hk3 (by omega))).2.2.1; have x3 := (blk_cells (HRET.out.below hk3 (by omega))).2.2.2; have x4 := (blk_cells (HBOX.out.below hk3 (by omega))).1; have x5 := (blk_cells (HBOX.out.below hk3 (by omega))).2.1; clear hb3 hr3)
        | (go_at_call 66; refine (l1Text_any _ (ofTerm (sort t)) _ _ (Nat.le_refl _) HR3.out HWF.out hts).mono ?_; rintro e w4 ⟨rfl, hb4⟩; have hk4 : Below W2.heap.size W2 w4 := hk3.trans (hb4.mono hk3.size); have x6 := (blk_cells (HRET.out.below hk4 (by omega))).1; have x7 := (blk_cells (HRET.out.below hk4 (by omega))).2.1; have x8 := (blk_cells (HRET.out.below hk4 (by omega))).2.2.1; have x9 := (blk_cells (HRET.out.below hk4 (by omega))).2.2.2; have xa := (blk_cells (HBOX.out.below hk4 (by omega))).1; have xb := (blk_cells (HBOX.out.below hk4 (by omega))).2.1; clear hb4; rw [st_eq]; rw [HS.out]))
      all_goals (try go_wp2_with fail)
      all_goals
        refine bodyPost_ret (v := .tuple #[.agg #[.string ⟨u.toArray⟩, .slice A n c], .bool false]) ?_ rfl ?_
        · simp [results, Tryz.results60, go_sem, x6, x7]
        · rw [HN.out]
          exact LoosePost.no rfl (((HBB.out.trans (hk4.mono hWs)).setCell (Nat.le_refl _) _).setCell (Nat.le_refl _) _)

end Go.Proofs.YtopmkddmllmecaaGreatDoor

/-! The walks of the model's TermValid, TermSort and TermSize. -/
namespace Go.Proofs.YtopmkddmllmecaaGreatDoor
open Go.RowKit Rt

set_option maxHeartbeats 800000 in
theorem specTermValid (hBag : BagSaid) (s : ByteArray) (hm : s.size ≤ maxLen) (w : World) :
    Calls Tryz.prog 32 #[.string s] w fun e w' => e = .returned (.bool (termOf s.data.toList).isSome) ∧ Below w.heap.size w w' := by
  go_enter Tryz.func32, Tryz.ntmps32
  go_wp2_with fail
  refine (l1Term_any hBag s hm w).mono ?_
  intro e w2 hp
  cases ht : termOf s.data.toList with
  | none =>
    rw [ht] at hp
    obtain ⟨hb, u, A, n, c, rfl⟩ := hp
    have hs := hb.size
    have HB := Lib.hid hb
    have HT := Lib.hid ht
    clear ht hb
    go_wp2_with fail
    go_ret
    exact ⟨by rw [HT.out]; rfl, HB.out.alloc hs _⟩
  | some t =>
    rw [ht] at hp
    obtain ⟨hb, v, rfl, hr⟩ := hp
    obtain ⟨u, A, n, c, rfl⟩ := repS_shape (RepSF.rep _ _ hr)
    have hs := hb.size
    have HB := Lib.hid hb
    have HT := Lib.hid ht
    clear ht hb hr
    go_wp2_with fail
    go_ret
    exact ⟨by rw [HT.out]; rfl, HB.out.alloc hs _⟩

/-- What TermSort tells. -/
def sortRes (l : B) : B × Bool := match loose l with | some t => (text (sort t), true) | none => ([], false)

/-- What TermSize tells. -/
def sizeRes (l : B) : Int := match termOf l with | some t => size t | none => -1

theorem termOf_some (l : B) (t : Term) (h : termOf l = some t) : loose l = some t ∧ text (sort t) = l := by
  unfold termOf at h
  cases hl : loose l with
  | none => rw [hl] at h; simp at h
  | some u =>
    rw [hl] at h
    simp only at h
    split at h
    · rename_i he
      simp only [Option.some.injEq] at h
      subst h
      exact ⟨rfl, he⟩
    · simp at h

end Go.Proofs.YtopmkddmllmecaaGreatDoor
