/- The walks of l1Loose, l1Term and what is built on them. -/
import Derived.Test.YtopmkddmllmecaaGreatDoorSpecI
import Derived.Deep.RegionWith
import Derived.Handy
import Derived.Deep.DeepCutAuto
namespace Go.Proofs.YtopmkddmllmecaaGreatDoor
open Go.RowKit Rt

/-- The term, sorted or not, that a text tells. -/
def loose (l : B) : Option Term :=
  match parse l with
  | none => none
  | some x => match toTerm 0 x with
    | none => none
    | some t => if size t ≤ 60 then some t else none

/-- The term that a text is. -/
def termOf (l : B) : Option Term :=
  match loose l with
  | none => none
  | some t => if text (sort t) = l then some t else none

theorem rd_facts (l : B) (f : Nat) : (∀ i d t e, rd l f i d = some (t, e) → wfT t = true ∧ (textT t).length + i = e) ∧
    (∀ i d m e, rdL l f i d = some (m, e) → wfL m = true ∧ (textL m).length + i + 1 = e) := by
  induction f with
  | zero => constructor <;> (intro i d t e h; simp [rd, rdL] at h)
  | succ f ih =>
    constructor
    · intro i d t e h
      rw [rd] at h
      split at h
      · split at h
        · rw [Option.map_eq_some_iff] at h
          obtain ⟨⟨m, e'⟩, hl, hp⟩ := h
          obtain ⟨h1, h2⟩ := ih.2 _ _ _ _ hl
          have h3 := ((rd_bounds l f).2 _ _ _ _ hl).2.2
          simp only [Prod.mk.injEq] at hp
          obtain ⟨rfl, rfl⟩ := hp
          refine ⟨?_, by simp [textT]; omega⟩
          rw [wfT, h1, Bool.and_true]
          cases m with
          | nil => exact absurd rfl h3
          | cons _ _ => rfl
        · simp at h
      · split at h
        · rename_i hlt
          simp only [Option.some.injEq, Prod.mk.injEq] at h
          obtain ⟨rfl, rfl⟩ := h
          have hi : i < l.length := by
            rcases Nat.lt_or_ge i l.length with h1 | h1
            · exact h1
            · have := endA_out l i h1; omega
          have hle := endA_le l i (by omega)
          have hcl : (cut l i (endA l i)).length = endA l i - i := by simp [cut]; omega
          refine ⟨?_, by rw [textT, hcl]; omega⟩
          rw [wfT, Bool.and_eq_true]
          refine ⟨by rw [cut_ne l i _ hlt hle]; rfl, ?_⟩
          have : cut l i (endA l i) = (l.drop i).takeWhile isAtomB := by
            unfold cut endA
            rw [Nat.add_sub_cancel_left]
            have hp := List.takeWhile_prefix (p := isAtomB) (l := l.drop i)
            rw [List.prefix_iff_eq_take] at hp
            exact hp.symm
          rw [this]
          exact List.all_takeWhile
        · simp at h
    · intro i d m e h
      rw [rdL] at h
      split at h
      · simp at h
      · rename_i t e' ht
        obtain ⟨h1, h2⟩ := ih.1 _ _ _ _ ht
        split at h
        · simp only [Option.some.injEq, Prod.mk.injEq] at h
          obtain ⟨rfl, rfl⟩ := h
          exact ⟨by simp [wfL, h1], by simp [textL]; omega⟩
        · split at h
          · rw [Option.map_eq_some_iff] at h
            obtain ⟨⟨m', e''⟩, hl, hp⟩ := h
            obtain ⟨h3, h4⟩ := ih.2 _ _ _ _ hl
            have h5 := ((rd_bounds l f).2 _ _ _ _ hl).2.2
            simp only [Prod.mk.injEq] at hp
            obtain ⟨rfl, rfl⟩ := hp
            refine ⟨by simp [wfL, h1, h3], ?_⟩
            cases m' with
            | nil => exact absurd rfl h5
            | cons u m' => simp only [textL, List.length_append, List.length_cons] at h4 ⊢; omega
          · simp at h

theorem parse_facts (l : B) (t : Tree) (h : parse l = some t) : wfT t = true ∧ (textT t).length = l.length ∧ l.length ≤ 4000 := by
  unfold parse at h
  split at h
  · rename_i hl
    split at h
    · rename_i x e hr
      split at h
      · rename_i he
        simp only [Option.some.injEq] at h
        subst h
        obtain ⟨h1, h2⟩ := (rd_facts l _).1 _ _ _ _ hr
        exact ⟨h1, by omega, hl⟩
      · simp at h
    · simp at h
  · simp at h

theorem nodes_text : ∀ (n : Nat) (t : Tree), nodes t ≤ n → wfT t = true → nodes t ≤ (textT t).length
  | 0, t, h, _ => by have := nodes_pos t; omega
  | n + 1, .atom s, _, h => by
    cases s with
    | nil => simp [wfT] at h
    | cons c s => simp [nodes, textT]
  | n + 1, .list l, hn, h => by
    rw [wfT, Bool.and_eq_true] at h
    rw [nodes] at hn ⊢
    rw [textT]
    have : ∀ (m : List Tree), nodesL m ≤ n → wfL m = true → nodesL m ≤ (textL m).length := by
      intro m
      induction m with
      | nil => intro _ _; simp [nodesL]
      | cons t m ih =>
        intro h1 h2
        rw [nodesL] at h1 ⊢
        rw [wfL, Bool.and_eq_true] at h2
        have h3 := nodes_text n t (by omega) h2.1
        cases m with
        | nil => simp [nodesL, textL]; exact h3
        | cons u m =>
          have := ih (by omega) h2.2
          simp only [textL, List.length_append, List.length_cons]
          omega
    have := this l (by omega) h.2
    simp; omega

theorem size_nodes : ∀ (n : Nat) (t : Term), size t ≤ n → size t ≤ nodes (ofTerm t)
  | 0, t, h => by have := size_pos t; omega
  | n + 1, .nm _, _ => by simp [size, ofTerm, nodes]
  | n + 1, .ix _, _ => by simp [size, ofTerm, nodes]
  | n + 1, .lam t, h => by
    rw [size] at h ⊢
    have := size_nodes n t (by omega)
    simp [ofTerm, nodes, nodesL]; omega
  | n + 1, .app t b, h => by
    rw [size] at h ⊢
    have h1 := size_nodes n t (by omega)
    have : ∀ (m : List Term), sizes m ≤ n → sizes m ≤ nodesL (ofTerms m) := by
      intro m
      induction m with
      | nil => intro _; simp [sizes]
      | cons u m ih =>
        intro h2
        rw [sizes] at h2 ⊢
        have h3 := size_nodes n u (by omega)
        have := ih (by omega)
        simp [ofTerms, nodesL]; omega
    have := this b (by omega)
    simp [ofTerm, nodes, nodesL]; omega

/-- A loose term's facts. -/
theorem loose_facts (l : B) (x : Tree) (t : Term) (hp : parse l = some x) (ht : toTerm 0 x = some t) : x = ofTerm t ∧ ok 0 t = true ∧ (text t).length = l.length ∧ l.length ≤ 4000 ∧ size t ≤ 4000 := by
  obtain ⟨h1, h2⟩ := toTerm_some 0 x t ht
  obtain ⟨h3, h4, h5⟩ := parse_facts l x hp
  subst h1
  refine ⟨rfl, h2, h4, h5, ?_⟩
  have := size_nodes _ t (Nat.le_refl _)
  have := nodes_text _ _ (Nat.le_refl _) h3
  omega

/-- What l1Loose and l1Term hand back. -/
def LoosePost (w : World) (r : Option Term) (e : Ending) (w' : World) : Prop :=
  Below w.heap.size w w' ∧ match r with
    | some t => ∃ v, e = .returned (.tuple #[v, .bool true]) ∧ RepSF (fun k => w.heap.size ≤ k) w' (ofTerm t) v
    | none => ∃ (u : ByteArray) (A : Option Addr) (n c : Nat), e = .returned (.tuple #[.agg #[.string u, .slice A n c], .bool false])

theorem LoosePost.no {w w' : World} {u : ByteArray} {A : Option Addr} {n c : Nat} {e : Ending} (h : e = .returned (.tuple #[.agg #[.string u, .slice A n c], .bool false])) (hb : Below w.heap.size w w') : LoosePost w none e w' := ⟨hb, u, A, n, c, h⟩
theorem LoosePost.yes {w w' : World} {t : Term} {v : Value} {e : Ending} (h : e = .returned (.tuple #[v, .bool true])) (hr : RepSF (fun k => w.heap.size ≤ k) w' (ofTerm t) v) (hb : Below w.heap.size w w') : LoosePost w (some t) e w' := ⟨hb, v, h, hr⟩

set_option maxHeartbeats 1600000 in
set_option maxRecDepth 100000 in
theorem l1Loose_any (s : ByteArray) (hm : s.size ≤ maxLen) (w : World) :
    Calls Tryz.prog 89 #[.string s] w (LoosePost w (loose s.data.toList)) := by
  generalize hr : loose s.data.toList = r
  have HRR := Lib.hid hr
  clear hr
  go_enter Tryz.func89, Tryz.ntmps89
  go_wp2_with fail
  have hret := Blk.new w 84 #[.string ⟨#[]⟩, .slice none 0 0]
  have hW := below_one w (.cells #[.string ⟨#[]⟩, .slice none 0 0] 84)
  generalize w.alloc (.cells #[.string ⟨#[]⟩, .slice none 0 0] 84) = W at *
  refine (l1Parse_any s hm W).mono ?_
  intro e w2 hpost
  have hlW : w.heap.size + 1 ≤ W.heap.size := hret.lt
  cases hp : parse s.data.toList with
  | none =>
    rw [hp] at hpost
    obtain ⟨hb, u, A, n, c, rfl⟩ := hpost
    have hret2 := hret.below hb hret.lt
    have hbb := hW.trans (hb.mono hW.size)
    have hlt : w.heap.size + 1 ≤ w2.heap.size := hret2.lt
    have r0 := fun o => (blk_cells (hret2.alloc o)).1
    have r1 := fun o => (blk_cells (hret2.alloc o)).2.1
    have z0 := fun o => (blk_cells (hret2.alloc o)).2.2.1
    have z1 := fun o => (blk_cells (hret2.alloc o)).2.2.2
    have HN : Hid (r = none) := by show _ = _; rw [← HRR.out, loose, hp]
    clear hret hW hb hret2 hp
    go_wp2_with fail
    go_region_with (fail)
    all_goals (try go_wp2_with fail)
    all_goals
      refine bodyPost_ret (v := .tuple #[.agg #[.string u, .slice A n c], .bool false]) ?_ rfl ?_
      · simp [results, Tryz.results89, go_sem, r0, r1]
      · rw [HN.out]
        refine LoosePost.no rfl ?_
        first
          | exact Below.drew (((hbb.alloc hbb.size _).setCell (Nat.le_refl _) _).setCell (Nat.le_refl _) _)
          | exact (((hbb.alloc hbb.size _).drew).setCell (Nat.le_refl _) _).setCell (Nat.le_refl _) _
          | go_grown
  | some x =>
    rw [hp] at hpost
    obtain ⟨hb, v, rfl, hrep⟩ := hpost
    obtain ⟨u, A, n, c, rfl⟩ := repS_shape (RepSF.rep _ _ hrep)
    obtain ⟨f1, f2, f3⟩ := parse_facts _ _ hp
    have f4 := nodes_text _ x (Nat.le_refl _) f1
    have hret2 := (hret.below hb hret.lt).alloc (.cells #[.string ⟨u.toArray⟩, .slice A n c] 84)
    have hbox2 := Blk.new w2 84 #[.string ⟨u.toArray⟩, .slice A n c]
    have hbb := (hW.trans (hb.mono hW.size)).alloc (hW.trans (hb.mono hW.size)).size (.cells #[.string ⟨u.toArray⟩, .slice A n c] 84)
    have hlt : w.heap.size + 1 ≤ w2.heap.size := Nat.le_trans hlW hb.size
    have hlt3 : w2.heap.size + 1 ≤ (w2.alloc (.cells #[.string ⟨u.toArray⟩, .slice A n c] 84)).heap.size := by simp
    have hrep2 := RepSF.move (G := fun k => W.heap.size ≤ k ∧ k < w2.heap.size) (w' := w2.alloc (.cells #[.string ⟨u.toArray⟩, .slice A n c] 84)) (fun k _ hk => Below.heap_alloc w2 _ k hk) (fun k hk hk2 => ⟨hk, hk2⟩) _ _ hrep
    clear hret hW hb hrep
    go_upto_region 2 with fail
    generalize w2.alloc (.cells #[.string ⟨u.toArray⟩, .slice A n c] 84) = W2 at *
    have HRK : Hid (∀ V, Below W2.heap.size W2 V → RepS V x (.agg #[.string ⟨u.toArray⟩, .slice A n c])) := fun V hV => (RepSF.rep _ _ hrep2).keep (below_keeps hV)
    have HFIN : Hid (∀ V, Below W2.heap.size W2 V → ∀ y z y' z', RepSF (fun k => w.heap.size ≤ k) (((V.setCell ⟨w.heap.size, 0, none⟩ y).setCell ⟨w.heap.size, 1, none⟩ z)) x (.agg #[.string ⟨u.toArray⟩, .slice A n c]) ∧ (y' = y ∧ z' = z → True)) := by
      intro V hV y z y' z'
      refine ⟨RepSF.move ?_ ?_ _ _ hrep2, fun _ => trivial⟩
      · intro k hk hk2
        rw [Below.heap_setCell _ _ _ _ (by show k ≠ w.heap.size; omega), Below.heap_setCell _ _ _ _ (by show k ≠ w.heap.size; omega)]
        exact hV.block k hk2
      · intro k hk _
        omega
    obtain ⟨r0, r1, z0, z1⟩ := blk_cells hret2
    obtain ⟨b0, b1, y0, y1⟩ := blk_cells hbox2
    have HRET := Lib.hid hret2
    have HBOX := Lib.hid hbox2
    have HBB := Lib.hid hbb
    have hWs : w.heap.size ≤ W2.heap.size := by omega
    have HP := Lib.hid hp
    clear hret2 hbox2 hrep2 hbb hp
    cases ht : toTerm 0 x with
    | none =>
      have HN : Hid (r = none) := by show _ = _; rw [← HRR.out, loose, HP.out]; simp [ht]
      have HT : Hid ((toTerm 0 x).isSome = false) := by show _ = _; rw [ht]; rfl
      clear ht
      go_region_with (first
        | (go_at_call 109; refine (l1Is_any 4000 x _ 0 _ (by omega) (by omega) (HRK.out _ (by go_grown)) f1 (by omega)).mono ?_; rintro e w3 ⟨rfl, hb3⟩; rw [HT.out]; have hk3 : Below W2.heap.size W2 w3 := Below.trans (by go_grown) (hb3.mono (Nat.le_refl _)); have x0 := (blk_cells (HRET.out.below hk3 (by omega))).1; have x1 := (blk_cells (HRET.out.below hk3 (by omega))).2.1; have x2 := (blk_cells (HRET.out.below hk3 (by omega))).2.2.1; have x3 := (blk_cells (HRET.out.below hk3 (by omega))).2.2.2; have x4 := (blk_cells (HBOX.out.below hk3 (by omega))).1; have x5 := (blk_cells (HBOX.out.below hk3 (by omega))).2.1))
      all_goals (try go_wp2_with fail)
      all_goals
        refine bodyPost_ret (v := .tuple #[.agg #[.string ⟨u.toArray⟩, .slice A n c], .bool false]) ?_ rfl ?_
        · simp [results, Tryz.results89, go_sem, x0, x1]
        · rw [HN.out]
          exact LoosePost.no rfl (((HBB.out.trans (hk3.mono hWs)).setCell (Nat.le_refl _) _).setCell (Nat.le_refl _) _)
    | some t =>
      obtain ⟨rfl, _, _, _, f5⟩ := loose_facts _ _ _ HP.out ht
      have HT : Hid ((toTerm 0 (ofTerm t)).isSome = true) := by show _ = _; rw [ht]; rfl
      by_cases hs : size t ≤ 60
      · have HN : Hid (r = some t) := by show _ = _; rw [← HRR.out, loose, HP.out]; simp [ht, hs]
        have hq : decide ((size t : Int) ≤ 60) = true := by simp; omega
        clear ht
        go_region_with (first
          | (go_at_call 109; refine (l1Is_any 4000 (ofTerm t) _ 0 _ (by omega) (by omega) (HRK.out _ (by go_grown)) f1 (by omega)).mono ?_; rintro e w3 ⟨rfl, hb3⟩; rw [HT.out]; have hk3 : Below W2.heap.size W2 w3 := Below.trans (by go_grown) (hb3.mono (Nat.le_refl _)); have x0 := (blk_cells (HRET.out.below hk3 (by omega))).1; have x1 := (blk_cells (HRET.out.below hk3 (by omega))).2.1; have x2 := (blk_cells (HRET.out.below hk3 (by omega))).2.2.1; have x3 := (blk_cells (HRET.out.below hk3 (by omega))).2.2.2; have x4 := (blk_cells (HBOX.out.below hk3 (by omega))).1; have x5 := (blk_cells (HBOX.out.below hk3 (by omega))).2.1)
          | (go_at_call 110; refine (l1Size_any 4000 t _ _ f5 (by omega) (HRK.out _ hk3)).mono ?_; rintro e w4 ⟨rfl, hb4⟩; have hk4 : Below W2.heap.size W2 w4 := hk3.trans (hb4.mono hk3.size); have x6 := (blk_cells (HRET.out.below hk4 (by omega))).1; have x7 := (blk_cells (HRET.out.below hk4 (by omega))).2.1; have x8 := (blk_cells (HRET.out.below hk4 (by omega))).2.2.1; have x9 := (blk_cells (HRET.out.below hk4 (by omega))).2.2.2; have xa := (blk_cells (HBOX.out.below hk4 (by omega))).1; have xb := (blk_cells (HBOX.out.below hk4 (by omega))).2.1))
        all_goals (try go_wp2_with fail)
        all_goals
          refine bodyPost_ret (v := .tuple #[.agg #[.string ⟨u.toArray⟩, .slice A n c], .bool true]) ?_ rfl ?_
          · simp [results, Tryz.results89, go_sem, x6, x7]
          · rw [HN.out]
            exact LoosePost.yes rfl (HFIN.out w4 hk4 _ _ (.bool true) (.bool true)).1 (((HBB.out.trans (hk4.mono hWs)).setCell (Nat.le_refl _) _).setCell (Nat.le_refl _) _)
      · have HN : Hid (r = none) := by show _ = _; rw [← HRR.out, loose, HP.out]; simp [ht, hs]
        have hq : decide ((size t : Int) ≤ 60) = false := by simp; omega
        clear ht
        go_region_with (first
          | (go_at_call 109; refine (l1Is_any 4000 (ofTerm t) _ 0 _ (by omega) (by omega) (HRK.out _ (by go_grown)) f1 (by omega)).mono ?_; rintro e w3 ⟨rfl, hb3⟩; rw [HT.out]; have hk3 : Below W2.heap.size W2 w3 := Below.trans (by go_grown) (hb3.mono (Nat.le_refl _)); have x0 := (blk_cells (HRET.out.below hk3 (by omega))).1; have x1 := (blk_cells (HRET.out.below hk3 (by omega))).2.1; have x2 := (blk_cells (HRET.out.below hk3 (by omega))).2.2.1; have x3 := (blk_cells (HRET.out.below hk3 (by omega))).2.2.2; have x4 := (blk_cells (HBOX.out.below hk3 (by omega))).1; have x5 := (blk_cells (HBOX.out.below hk3 (by omega))).2.1)
          | (go_at_call 110; refine (l1Size_any 4000 t _ _ f5 (by omega) (HRK.out _ hk3)).mono ?_; rintro e w4 ⟨rfl, hb4⟩; have hk4 : Below W2.heap.size W2 w4 := hk3.trans (hb4.mono hk3.size); have x6 := (blk_cells (HRET.out.below hk4 (by omega))).1; have x7 := (blk_cells (HRET.out.below hk4 (by omega))).2.1; have x8 := (blk_cells (HRET.out.below hk4 (by omega))).2.2.1; have x9 := (blk_cells (HRET.out.below hk4 (by omega))).2.2.2; have xa := (blk_cells (HBOX.out.below hk4 (by omega))).1; have xb := (blk_cells (HBOX.out.below hk4 (by omega))).2.1))
        all_goals (try go_wp2_with fail)
        all_goals
          refine bodyPost_ret (v := .tuple #[.agg #[.string ⟨u.toArray⟩, .slice A n c], .bool false]) ?_ rfl ?_
          · simp [results, Tryz.results89, go_sem, x6, x7]
          · rw [HN.out]
            exact LoosePost.no rfl (((HBB.out.trans (hk4.mono hWs)).setCell (Nat.le_refl _) _).setCell (Nat.le_refl _) _)

end Go.Proofs.YtopmkddmllmecaaGreatDoor
