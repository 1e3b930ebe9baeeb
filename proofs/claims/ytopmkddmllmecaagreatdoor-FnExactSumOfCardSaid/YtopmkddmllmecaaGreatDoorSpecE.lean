/- The walks of the model's functions on trees: whether one is a term. The walk of the model's reader. The walk of the model's reader: parentheses. The walks of the model's reader, whole, and of l1Parse. -/
import Derived.Test.YtopmkddmllmecaaGreatDoorSpecA
import Derived.Maps.AppendAt
/-! The walks of the model's functions on trees: whether one is a term. -/
namespace Go.Proofs.YtopmkddmllmecaaGreatDoor
open Go.RowKit Rt

theorem toTerm_other (k : Nat) (l : List Tree) (h1 : headT (.list l) ≠ sLam) (h2 : headT (.list l) ≠ sApp) : toTerm k (.list l) = none := by
  match l with
  | [] => rw [toTerm]; simp
  | .list _ :: _ => rw [toTerm]; simp
  | [.atom a] => simp [toTerm]
  | [.atom a, x] => rw [toTerm]; simp [show a ≠ sLam from h1]
  | [.atom a, x, .atom _] => simp [toTerm]
  | [.atom a, x, .list []] => simp [toTerm]
  | [.atom a, x, .list (.list _ :: _)] => simp [toTerm]
  | [.atom a, x, .list (.atom m :: b)] => rw [toTerm]; simp [show a ≠ sApp from h2]
  | .atom a :: x :: y :: z :: r => simp [toTerm]

/-- The shapes of a list that the model tells apart. -/
theorem shapes (k : Nat) (l : List Tree) :
    (((headT (.list l) == [108, 97, 109]) = false ∧ (headT (.list l) == [97, 112, 112]) = false) ∧ toTerm k (.list l) = none) ∨
    ((headT (.list l) == [108, 97, 109]) = true ∧ (((l.length : Int) == 2) = false) ∧ toTerm k (.list l) = none) ∨
    (∃ x, l = [.atom sLam, x] ∧ toTerm k (.list l) = (toTerm (k + 1) x).map .lam) ∨
    ((headT (.list l) == [108, 97, 109]) = false ∧ (headT (.list l) == [97, 112, 112]) = true ∧ (((l.length : Int) == 3) = false) ∧ toTerm k (.list l) = none) ∨
    (∃ x y, l = [.atom sApp, x, y] ∧ (headT y == [109]) = false ∧ toTerm k (.list l) = none) ∨
    (∃ x b, l = [.atom sApp, x, .list (.atom sM :: b)] ∧ (toTerm k (.list l)).isSome = ((toTerm k x).isSome && (toTerms k b).isSome)) := by
  by_cases h1 : headT (.list l) = sLam
  · by_cases h2 : l.length = 2
    · match l, h2 with
      | [p, x], _ =>
        have hp : p = .atom sLam := by
          cases p with
          | atom a => rw [show a = sLam from h1]
          | list m => exact absurd h1 (by simp [headT, sLam])
        subst hp
        refine .inr (.inr (.inl ⟨x, rfl, ?_⟩))
        rw [toTerm]; simp
    · refine .inr (.inl ⟨by simpa [sLam] using h1, by simp; omega, ?_⟩)
      match l, h2 with
      | [], _ => rw [toTerm]; simp
      | .list _ :: _, _ => rw [toTerm]; simp
      | [.atom a], _ => simp [toTerm]
      | [_, _], h => simp at h
      | [.atom a, x, .atom _], _ => simp [toTerm]
      | [.atom a, x, .list []], _ => simp [toTerm]
      | [.atom a, x, .list (.list _ :: _)], _ => simp [toTerm]
      | [.atom a, x, .list (.atom m :: b)], _ => rw [toTerm]; simp [show a = sLam from h1, sLam, sApp]
      | .atom a :: x :: y :: z :: r, _ => simp [toTerm]
  · by_cases h3 : headT (.list l) = sApp
    · have e1 : (headT (.list l) == [108, 97, 109]) = false := by simpa [sLam] using h1
      have e2 : (headT (.list l) == [97, 112, 112]) = true := by simpa [sApp] using h3
      by_cases h2 : l.length = 3
      · match l, h2 with
        | [p, x, y], _ =>
          have hp : p = .atom sApp := by
            cases p with
            | atom a => rw [show a = sApp from h3]
            | list m => exact absurd h3 (by simp [headT, sApp])
          subst hp
          by_cases h4 : headT y = sM
          · have : ∃ b, y = .list (.atom sM :: b) := by
              match y, h4 with
              | .atom a, h => exact absurd h (by simp [headT, sM])
              | .list [], h => exact absurd h (by simp [headT, sM])
              | .list (.list _ :: _), h => exact absurd h (by simp [headT, sM])
              | .list (.atom m :: b), h => exact ⟨b, by rw [show m = sM from h]⟩
            obtain ⟨b, rfl⟩ := this
            refine .inr (.inr (.inr (.inr (.inr ⟨x, b, rfl, ?_⟩))))
            rw [toTerm]
            cases toTerm k x <;> simp
          · refine .inr (.inr (.inr (.inr (.inl ⟨x, y, rfl, by simpa [sM] using h4, ?_⟩))))
            match y, h4 with
            | .atom a, h => simp [toTerm]
            | .list [], h => simp [toTerm]
            | .list (.list _ :: _), h => simp [toTerm]
            | .list (.atom m :: b), h =>
              rw [toTerm]
              cases toTerm k x <;> simp [show m ≠ sM from h]
      · refine .inr (.inr (.inr (.inl ⟨e1, e2, by simp; omega, ?_⟩)))
        match l, h2 with
        | [], _ => rw [toTerm]; simp
        | .list _ :: _, _ => rw [toTerm]; simp
        | [.atom a], _ => simp [toTerm]
        | [.atom a, x], _ => rw [toTerm]; simp [show a = sApp from h3, sLam, sApp]
        | [_, _, _], h => simp at h
        | .atom a :: x :: y :: z :: r, _ => simp [toTerm]
    · exact .inl ⟨⟨by simpa [sLam] using h1, by simpa [sApp] using h3⟩, toTerm_other k l h1 h3⟩

theorem textL_mem : ∀ (l : List Tree) (k : Nat) (t : Tree), l[k]? = some t → (textT t).length ≤ (textL l).length := fun l k t h => by
  have := textL_len l k t h; omega

/-- What is asked of a part. -/
def PartOk (M : Nat) (t : Tree) : Prop := nodes t ≤ M ∧ wfT t = true ∧ (textT t).length ≤ 1000000

theorem partOk {M : Nat} {l : List Tree} (h1 : nodesL l ≤ M) (h2 : wfL l = true) (h3 : (textT (.list l)).length ≤ 1000000) (k : Nat) (t : Tree) (h : l[k]? = some t) : PartOk M t := by
  refine ⟨by have := nodesL_at l k t h; omega, wfL_at l k t h2 h, ?_⟩
  have := textL_mem l k t h
  simp [textT] at h3
  omega

theorem toTerms_take (k : Nat) : ∀ (l : List Tree) (j : Nat) (t : Tree), l[j]? = some t → (toTerms k (l.take (j + 1))).isSome = ((toTerms k (l.take j)).isSome && (toTerm k t).isSome)
  | [], j, t, h => by simp at h
  | u :: l, 0, t, h => by
    simp at h; subst h
    simp only [List.take_succ_cons, List.take_zero, toTerms]
    cases toTerm k u <;> simp
  | u :: l, j + 1, t, h => by
    have := toTerms_take k l j t (by simpa using h)
    simp only [List.take_succ_cons] at this ⊢
    rw [toTerms, toTerms]
    cases toTerm k u with
    | none => simp
    | some a => simpa using this

theorem toTerms_no (k : Nat) (l : List Tree) (j : Nat) (t : Tree) (h : l[j]? = some t) (hn : (toTerm k t).isSome = false) : (toTerms k l).isSome = false := by
  induction l generalizing j with
  | nil => simp at h
  | cons u l ih =>
    rw [toTerms]
    cases j with
    | zero =>
      simp at h; subst h
      cases hu : toTerm k u with
      | none => rfl
      | some a => rw [hu] at hn; simp at hn
    | succ j =>
      have := ih j (by simpa using h)
      cases toTerm k u with
      | none => rfl
      | some a => simpa using this

set_option maxHeartbeats 800000 in
theorem l1Is_atom (a : B) (k : Nat) (w : World) (hwf : wfT (.atom a) = true) (hlen : a.length ≤ 1000000) :
    Calls Tryz.prog 109 #[.agg #[st a, .slice none 0 0], .int .i64 k] w fun e w' => e = .returned (.bool (toTerm k (.atom a)).isSome) ∧ Below w.heap.size w w' := by
  have hsz : (⟨a.toArray⟩ : ByteArray).size ≤ maxLen := by simp [ByteArray.size, maxLen]; omega
  have hI : ∃ z : Int, idxI a = z ∧ ((toTerm k (.atom a)).isSome = (isName a || (decide (0 ≤ z) && decide (z < k)))) := by
    refine ⟨_, rfl, ?_⟩
    rw [toTerm]
    unfold idxI
    cases hn : isName a with
    | true => rfl
    | false =>
      cases hi : index? a with
      | none => simp
      | some n =>
        by_cases h : n < k
        · simp [h]
        · simp [h]
  obtain ⟨z, hz, hT⟩ := hI
  have HZ := Lib.hid hz
  have HT := Lib.hid hT
  have HS := Lib.hid hsz
  clear hz hT hsz
  rw [st_eq]
  cases a with
  | nil => simp [wfT] at hwf
  | cons c a =>
    clear hwf
    go_enter Tryz.func109, Tryz.ntmps109
    go_wp2_with fail
    refine (l1Index_any _ _ HS.out).mono ?_
    rintro e w2 ⟨rfl, rfl⟩
    rw [show idxI (⟨(c :: a).toArray⟩ : ByteArray).data.toList = z from HZ.out]
    go_wp2_with fail
    refine (l1Name_any _ _ HS.out).mono ?_
    rintro e w2 ⟨rfl, rfl⟩
    rw [show isName (⟨(c :: a).toArray⟩ : ByteArray).data.toList = isName (c :: a) from rfl]
    cases hN : isName (c :: a)
    all_goals
      have HN := Lib.hid hN
      clear hN
      go_wp2_with fail
      all_goals
        go_ret
        refine ⟨ret_bool ?_, below_one _ _⟩
        rw [HT.out, HN.out]
        first | rfl | (rw [Bool.eq_iff_iff]; simp; omega)

set_option maxHeartbeats 800000 in
theorem l1Is_any (n : Nat) : ∀ (t : Tree) (v : Value) (k : Nat) (w : World), nodes t ≤ n → n + k ≤ 1000000 → RepS w t v → wfT t = true → (textT t).length ≤ 1000000 →
    Calls Tryz.prog 109 #[v, .int .i64 k] w fun e w' => e = .returned (.bool (toTerm k t).isSome) ∧ Below w.heap.size w w' := by
  induction n with
  | zero => intro t v k w h; have := nodes_pos t; omega
  | succ n ih =>
    intro t v k w hn hm hr hwf hlen
    cases t with
    | atom a =>
      rw [RepS] at hr
      subst hr
      exact l1Is_atom a k w hwf hlen
    | list l =>
      have HR := Lib.hid hr
      rw [RepS] at hr
      obtain ⟨b, c, xs, rfl, h1, h2, hc, hf⟩ := hr
      rw [st_eq] at HR ⊢
      unfold maxLen at h2
      have HC := Lib.hid hc
      have HF := Lib.hid hf
      have IH := Lib.hid ih
      rw [nodes] at hn
      have HP := Lib.hid (partOk (M := nodesL l) (Nat.le_refl _) (by rw [wfT, Bool.and_eq_true] at hwf; exact hwf.2) hlen)
      clear hc hf hwf ih hlen
      rcases shapes k l with ⟨⟨q1, q2⟩, hT⟩ | ⟨q1, q2, hT⟩ | ⟨x, rfl, hT⟩ | ⟨q1, q2, q3, hT⟩ | ⟨x, y, rfl, q1, hT⟩ | ⟨x, l, rfl, hT⟩
      · rw [hT]
        clear hT
        go_enter Tryz.func109, Tryz.ntmps109
        go_wp2_with fail
        have hW := below_one w (.cells #[.string ⟨#[]⟩, .slice (some ⟨b, 0, none⟩) l.length c] 84)
        obtain ⟨hx1, hx2⟩ := two_cells w (.string ⟨#[]⟩) (.slice (some ⟨b, 0, none⟩) l.length c) 84
        have hsz : w.heap.size + 1 ≤ (w.alloc (.cells #[.string ⟨#[]⟩, .slice (some ⟨b, 0, none⟩) l.length c] 84)).heap.size := by simp
        generalize w.alloc (.cells #[.string ⟨#[]⟩, .slice (some ⟨b, 0, none⟩) l.length c] 84) = W at *
        have hKW := below_keeps hW
        refine (l1Head_any _ _ _ (HR.out.keep hKW)).mono ?_
        rintro e w2 ⟨rfl, hb2⟩
        rw [st_eq]
        have hK2 := hKW.trans (below_keeps hb2)
        have hy2 : w2.cell? ⟨w.heap.size, 1, none⟩ = some (.slice (some ⟨b, 0, none⟩) l.length c) := by rw [hb2.cell (by show w.heap.size < _; omega)]; exact hx2
        have hB2 : Below w.heap.size w w2 := hW.trans (hb2.mono (by omega))
        clear hx1 hx2
        go_wp2_with fail
        go_ret
        exact ⟨rfl, hB2⟩
      · rw [hT]
        clear hT
        go_enter Tryz.func109, Tryz.ntmps109
        go_wp2_with fail
        have hW := below_one w (.cells #[.string ⟨#[]⟩, .slice (some ⟨b, 0, none⟩) l.length c] 84)
        obtain ⟨hx1, hx2⟩ := two_cells w (.string ⟨#[]⟩) (.slice (some ⟨b, 0, none⟩) l.length c) 84
        have hsz : w.heap.size + 1 ≤ (w.alloc (.cells #[.string ⟨#[]⟩, .slice (some ⟨b, 0, none⟩) l.length c] 84)).heap.size := by simp
        generalize w.alloc (.cells #[.string ⟨#[]⟩, .slice (some ⟨b, 0, none⟩) l.length c] 84) = W at *
        have hKW := below_keeps hW
        refine (l1Head_any _ _ _ (HR.out.keep hKW)).mono ?_
        rintro e w2 ⟨rfl, hb2⟩
        rw [st_eq]
        have hK2 := hKW.trans (below_keeps hb2)
        have hy2 : w2.cell? ⟨w.heap.size, 1, none⟩ = some (.slice (some ⟨b, 0, none⟩) l.length c) := by rw [hb2.cell (by show w.heap.size < _; omega)]; exact hx2
        have hB2 : Below w.heap.size w w2 := hW.trans (hb2.mono (by omega))
        clear hx1 hx2
        go_wp2_with fail
        go_ret
        exact ⟨rfl, hB2⟩
      · have HT := Lib.hid hT
        clear hT
        obtain ⟨x0, y0, r, hxs, ha, hf⟩ := repF_cons HF.out
        obtain ⟨x1, y1, r, hr2, ht, hf⟩ := repF_cons hf
        subst hr2
        subst hxs
        have C2 := Lib.hid (HC.out 2 _ rfl)
        have C3 := Lib.hid (HC.out 3 _ rfl)
        have HX := Lib.hid ht
        clear ha ht hf
        simp only [List.length_cons, List.length_nil, Nat.zero_add] at h1 HR ⊢
        go_enter Tryz.func109, Tryz.ntmps109
        go_wp2_with fail
        have hW := below_one w (.cells #[.string ⟨#[]⟩, .slice (some ⟨b, 0, none⟩) 2 c] 84)
        obtain ⟨hx1, hx2⟩ := two_cells w (.string ⟨#[]⟩) (.slice (some ⟨b, 0, none⟩) 2 c) 84
        have hsz : w.heap.size + 1 ≤ (w.alloc (.cells #[.string ⟨#[]⟩, .slice (some ⟨b, 0, none⟩) 2 c] 84)).heap.size := by simp
        generalize w.alloc (.cells #[.string ⟨#[]⟩, .slice (some ⟨b, 0, none⟩) 2 c] 84) = W at *
        have hKW := below_keeps hW
        refine (l1Head_any _ _ _ (HR.out.keep hKW)).mono ?_
        rintro e w2 ⟨rfl, hb2⟩
        rw [st_eq]
        have hK2 := hKW.trans (below_keeps hb2)
        have hy2 : w2.cell? ⟨w.heap.size, 1, none⟩ = some (.slice (some ⟨b, 0, none⟩) 2 c) := by rw [hb2.cell (by show w.heap.size < _; omega)]; exact hx2
        have hB2 : Below w.heap.size w w2 := hW.trans (hb2.mono (by omega))
        clear hx1 hx2
        rw [show headT (.list [.atom sLam, x]) = [108, 97, 109] from rfl]
        have c2 := hK2 _ _ C2.out
        have c3 := hK2 _ _ C3.out
        go_wp2_with fail
        obtain ⟨p1, p2, p3⟩ := HP.out 1 x rfl
        refine (IH.out x _ (k + 1) w2 (by omega) (by omega) (HX.out.keep hK2) p2 p3).mono ?_
        rintro e w3 ⟨rfl, hb3⟩
        go_wp2_with fail
        go_ret
        refine ⟨ret_bool ?_, hB2.trans (hb3.mono hB2.size)⟩
        rw [HT.out]
        simp
      · rw [hT]
        clear hT
        have q4 : (((l.length : Int) != 3) = true) := by rw [bne, q3]; rfl
        go_enter Tryz.func109, Tryz.ntmps109
        go_wp2_with fail
        have hW := below_one w (.cells #[.string ⟨#[]⟩, .slice (some ⟨b, 0, none⟩) l.length c] 84)
        obtain ⟨hx1, hx2⟩ := two_cells w (.string ⟨#[]⟩) (.slice (some ⟨b, 0, none⟩) l.length c) 84
        have hsz : w.heap.size + 1 ≤ (w.alloc (.cells #[.string ⟨#[]⟩, .slice (some ⟨b, 0, none⟩) l.length c] 84)).heap.size := by simp
        generalize w.alloc (.cells #[.string ⟨#[]⟩, .slice (some ⟨b, 0, none⟩) l.length c] 84) = W at *
        have hKW := below_keeps hW
        refine (l1Head_any _ _ _ (HR.out.keep hKW)).mono ?_
        rintro e w2 ⟨rfl, hb2⟩
        rw [st_eq]
        have hK2 := hKW.trans (below_keeps hb2)
        have hy2 : w2.cell? ⟨w.heap.size, 1, none⟩ = some (.slice (some ⟨b, 0, none⟩) l.length c) := by rw [hb2.cell (by show w.heap.size < _; omega)]; exact hx2
        have hB2 : Below w.heap.size w w2 := hW.trans (hb2.mono (by omega))
        clear hx1 hx2
        go_wp2_with fail
        go_ret
        exact ⟨rfl, hB2⟩
      · rw [hT]
        clear hT
        obtain ⟨x0, y0, r, hxs, ha, hf⟩ := repF_cons HF.out
        obtain ⟨x1, y1, r, hr2, ht, hf⟩ := repF_cons hf
        obtain ⟨x2, y2, r, hr3, hu, hf⟩ := repF_cons hf
        subst hr3
        subst hr2
        subst hxs
        have C4 := Lib.hid (HC.out 4 _ rfl)
        have C5 := Lib.hid (HC.out 5 _ rfl)
        have HU := Lib.hid hu
        clear ha ht hf hu
        simp only [List.length_cons, List.length_nil, Nat.zero_add] at h1 HR ⊢
        go_enter Tryz.func109, Tryz.ntmps109
        go_wp2_with fail
        have hW := below_one w (.cells #[.string ⟨#[]⟩, .slice (some ⟨b, 0, none⟩) 3 c] 84)
        obtain ⟨hx1, hx2⟩ := two_cells w (.string ⟨#[]⟩) (.slice (some ⟨b, 0, none⟩) 3 c) 84
        have hsz : w.heap.size + 1 ≤ (w.alloc (.cells #[.string ⟨#[]⟩, .slice (some ⟨b, 0, none⟩) 3 c] 84)).heap.size := by simp
        generalize w.alloc (.cells #[.string ⟨#[]⟩, .slice (some ⟨b, 0, none⟩) 3 c] 84) = W at *
        have hKW := below_keeps hW
        refine (l1Head_any _ _ _ (HR.out.keep hKW)).mono ?_
        rintro e w2 ⟨rfl, hb2⟩
        rw [st_eq]
        have hK2 := hKW.trans (below_keeps hb2)
        have hy2 : w2.cell? ⟨w.heap.size, 1, none⟩ = some (.slice (some ⟨b, 0, none⟩) 3 c) := by rw [hb2.cell (by show w.heap.size < _; omega)]; exact hx2
        have hB2 : Below w.heap.size w w2 := hW.trans (hb2.mono (by omega))
        clear hx1 hx2
        rw [show headT (.list [.atom sApp, x, y]) = [97, 112, 112] from rfl]
        have c4 := hK2 _ _ C4.out
        have c5 := hK2 _ _ C5.out
        have Q := Lib.hid q1
        clear q1
        go_wp2_with fail
        refine (l1Head_any _ _ _ (HU.out.keep hK2)).mono ?_
        rintro e w3 ⟨rfl, hb3⟩
        rw [st_eq]
        have q1 : (headT y != [109]) = true := by rw [bne, Q.out]; rfl
        have q2 := Q.out
        go_wp2_with fail
        go_ret
        exact ⟨rfl, hB2.trans (hb3.mono hB2.size)⟩
      · have HT := Lib.hid hT
        clear hT
        obtain ⟨x0, y0, r, hxs, ha, hf⟩ := repF_cons HF.out
        obtain ⟨x1, y1, r, hr2, ht, hf⟩ := repF_cons hf
        obtain ⟨x2, y2, r, hr3, hu, hf⟩ := repF_cons hf
        subst hr3
        subst hr2
        subst hxs
        have C2 := Lib.hid (HC.out 2 _ rfl)
        have C3 := Lib.hid (HC.out 3 _ rfl)
        have C4 := Lib.hid (HC.out 4 _ rfl)
        have C5 := Lib.hid (HC.out 5 _ rfl)
        have HU := Lib.hid hu
        have HX := Lib.hid ht
        obtain ⟨rfl, g, d, ys, rfl, g1, g2, gc, gf⟩ := repS_list hu
        have GC := Lib.hid gc
        have GF := Lib.hid gf
        unfold maxLen at g2
        clear ha ht hf hu gc gf
        simp only [List.length_cons, List.length_nil, Nat.zero_add] at h1 HR g1 HU C5 ⊢
        go_enter Tryz.func109, Tryz.ntmps109
        go_wp2_with fail
        have hW := below_one w (.cells #[.string ⟨#[]⟩, .slice (some ⟨b, 0, none⟩) 3 c] 84)
        obtain ⟨hx1, hx2⟩ := two_cells w (.string ⟨#[]⟩) (.slice (some ⟨b, 0, none⟩) 3 c) 84
        have hsz : w.heap.size + 1 ≤ (w.alloc (.cells #[.string ⟨#[]⟩, .slice (some ⟨b, 0, none⟩) 3 c] 84)).heap.size := by simp
        generalize w.alloc (.cells #[.string ⟨#[]⟩, .slice (some ⟨b, 0, none⟩) 3 c] 84) = W at *
        have hKW := below_keeps hW
        refine (l1Head_any _ _ _ (HR.out.keep hKW)).mono ?_
        rintro e w2 ⟨rfl, hb2⟩
        rw [st_eq]
        have hK2 := hKW.trans (below_keeps hb2)
        have hy2 : w2.cell? ⟨w.heap.size, 1, none⟩ = some (.slice (some ⟨b, 0, none⟩) 3 c) := by rw [hb2.cell (by show w.heap.size < _; omega)]; exact hx2
        have hB2 : Below w.heap.size w w2 := hW.trans (hb2.mono (by omega))
        clear hx1 hx2
        rw [show headT (.list [.atom sApp, x, .list (.atom sM :: l)]) = [97, 112, 112] from rfl]
        have c4 := hK2 _ _ C4.out
        have c5 := hK2 _ _ C5.out
        rw [st_eq] at c4 HU
        go_wp2_with fail
        refine (l1Head_any _ _ _ (HU.out.keep hK2)).mono ?_
        rintro e w3 ⟨rfl, hb3⟩
        rw [st_eq, show headT (.list (.atom sM :: l)) = [109] from rfl]
        have hK3 := hK2.trans (below_keeps hb3)
        have c2 := hK3 _ _ C2.out
        have c3 := hK3 _ _ C3.out
        have hy3 := below_keeps hb3 _ _ hy2
        have hB3 := hB2.trans (hb3.mono hB2.size)
        clear c4 c5 hy2
        go_wp2_with fail
        obtain ⟨p1, p2, p3⟩ := HP.out 1 x rfl
        refine (IH.out x _ k w3 (by omega) (by omega) (HX.out.keep hK3) p2 p3).mono ?_
        rintro e w4 ⟨rfl, hb4⟩
        have hK4 := hK3.trans (below_keeps hb4)
        have hy4 := below_keeps hb4 _ _ hy3
        have c5 := hK4 _ _ C5.out
        have hB4 := hB3.trans (hb4.mono hB3.size)
        clear c2 c3 hy3
        cases hb : (toTerm k x).isSome
        · have HT2 : Hid ((toTerm k (.list [.atom sApp, x, .list (.atom sM :: l)])).isSome = false) := by show _ = _; rw [HT.out, hb]; rfl
          clear hb
          go_wp2_with fail
          go_ret
          exact ⟨ret_bool (by rw [HT2.out]), hB4⟩
        · have HT2 : Hid ((toTerm k (.list [.atom sApp, x, .list (.atom sM :: l)])).isSome = (toTerms k l).isSome) := by show _ = _; rw [HT.out, hb]; rfl
          clear hb
          go_wp2_with fail
          go_loopw [7] (fun i wr => ∃ j : Nat, j ≤ l.length ∧ i = .int .i64 (j + 1) ∧ Hid ((toTerms k (l.take j)).isSome = true) ∧ Below w4.heap.size w4 wr) (fun i _ => l.length + 1 - (intOf i).toNat)
          case atStart => exact ⟨0, by omega, rfl, by simp [Hid, toTerms], Below.refl _ _⟩
          case round =>
            obtain ⟨j, hj, rfl, hd, hB⟩ := hrel
            by_cases hlt : j < l.length
            · obtain ⟨u, hu⟩ : ∃ u, l[j]? = some u := ⟨l[j], List.getElem?_eq_getElem hlt⟩
              obtain ⟨xu, yu, e1, e2, hrt⟩ := RepF.at _ ys (j + 1) u GF.out (by rw [List.getElem?_cons_succ]; exact hu)
              have hK := hK4.trans (below_keeps hB)
              have d1 := hK _ _ (GC.out ((j + 1) * 2) xu e1)
              have d2 := hK _ _ (GC.out ((j + 1) * 2 + 1) yu e2)
              have HRU := Lib.hid (hrt.keep hK)
              have HS := Lib.hid (toTerms_take k l j u hu)
              have HNo := Lib.hid (toTerms_no k l j u hu)
              obtain ⟨p1', p2', p3'⟩ := HP.out 2 (.list (.atom sM :: l)) rfl
              obtain ⟨p4, p5, p6⟩ := partOk (M := nodesL l) (Nat.le_refl _) (by rw [wfT, wfL, Bool.and_eq_true, Bool.and_eq_true] at p2'; exact p2'.2.2) (by
                refine Nat.le_trans ?_ p3'
                cases l with
                | nil => simp at hu
                | cons a l => simp [textT, textL]; omega) j u hu
              have hnl : nodesL l ≤ n := by simp only [nodesL, nodes] at hn; omega
              clear e1 e2 hrt hu p1' p2' p3'
              go_wp2_with fail
              refine (IH.out u _ k wr (by omega) (by omega) HRU.out p5 p6).mono ?_
              rintro e w5 ⟨rfl, hb5⟩
              cases hb : (toTerm k u).isSome
              · have HT3 : Hid ((toTerms k l).isSome = false) := HNo.out hb
                clear hb
                go_wp2_with fail
                go_ret
                exact ⟨ret_bool (by rw [HT2.out, HT3.out]), hB4.trans ((hB.trans (hb5.mono hB.size)).mono hB4.size)⟩
              · have HT3 : Hid ((toTerms k (l.take (j + 1))).isSome = true) := by show _ = _; rw [HS.out, hd.out, hb]; rfl
                clear hb
                go_wp2_with fail
                go_roundw
                case rel => exact ⟨j + 1, by omega, by go_num, HT3, hB.trans (hb5.mono hB.size)⟩
                case measure => simp [intOf]; omega
            · have e : l.take j = l := List.take_of_length_le (by omega)
              have HE := Lib.hid e
              clear e
              go_wp2_with fail
              go_ret
              refine ⟨ret_bool ?_, hB4.trans (hB.mono hB4.size)⟩
              have := hd.out
              rw [HE.out] at this
              rw [HT2.out, this]

end Go.Proofs.YtopmkddmllmecaaGreatDoor

/-! The walk of the model's reader. -/
namespace Go.Proofs.YtopmkddmllmecaaGreatDoor
open Go.RowKit Rt

/-- What the reader hands back. -/
def ReadPost (w : World) (r : Option (Tree × Nat)) (e : Ending) (w' : World) : Prop :=
  Below w.heap.size w w' ∧ match r with
    | some (t, j) => ∃ v, e = .returned (.tuple #[v, .int .i64 j]) ∧ RepSF (fun k => w.heap.size ≤ k) w' t v
    | none => ∃ (u : ByteArray) (A : Option Addr) (n c : Nat), e = .returned (.tuple #[.agg #[.string u, .slice A n c], .int .i64 (-1)])

theorem ReadPost.no {w w' : World} {u : ByteArray} {A : Option Addr} {n c : Nat} {e : Ending} (h : e = .returned (.tuple #[.agg #[.string u, .slice A n c], .int .i64 (-1)])) (hb : Below w.heap.size w w') : ReadPost w none e w' := ⟨hb, u, A, n, c, h⟩
theorem ReadPost.yes {w w' : World} {t : Tree} {j : Nat} {v : Value} {e : Ending} (h : e = .returned (.tuple #[v, .int .i64 j])) (hr : RepSF (fun k => w.heap.size ≤ k) w' t v) (hb : Below w.heap.size w w') : ReadPost w (some (t, j)) e w' := ⟨hb, v, h, hr⟩

theorem repS_shape {w : World} {t : Tree} {v : Value} (h : RepS w t v) : ∃ (u : B) (A : Option Addr) (n c : Nat), v = .agg #[.string ⟨u.toArray⟩, .slice A n c] := by
  cases t with
  | atom s => rw [RepS] at h; exact ⟨s, _, _, _, h⟩
  | list l => rw [RepS] at h; obtain ⟨b, c, xs, h, _⟩ := h; exact ⟨_, _, _, _, h⟩

theorem byte_at (s : ByteArray) (i : Nat) (h : i < s.size) : s.data.toList[i]? = some s[i] := by
  have hl : i < s.data.toList.length := by simpa using h
  rw [List.getElem?_eq_getElem hl]
  rfl

theorem below_two (w : World) (o o' : Obj) : Below w.heap.size w ((w.alloc o).alloc o') := ((Below.refl _ _).alloc (Nat.le_refl _) _).alloc (by simp) _

/-- What reading an atom comes to. -/
def atomRes (l : B) (i : Nat) : Option (Tree × Nat) := if i < endA l i then some (.atom (cut l i (endA l i)), endA l i) else none

theorem extract_cut (s : ByteArray) (i j : Nat) : s.extract i j = ⟨(cut s.data.toList i j).toArray⟩ := by
  apply ByteArray.ext
  apply Array.ext'
  simp [cut, ByteArray.data_extract]

theorem cut_empty (l : B) (i : Nat) : cut l i i = [] := by simp [cut]

theorem cut_ne (l : B) (i j : Nat) (h1 : i < j) (h2 : j ≤ l.length) : (cut l i j).isEmpty = false := by
  cases hc : cut l i j with
  | nil =>
    have := congrArg List.length hc
    simp [cut] at this
    omega
  | cons _ _ => rfl

set_option maxHeartbeats 800000 in
theorem l1Read_deep (s : ByteArray) (i d : Nat) (w : World) (hd : 100 < d) :
    Calls Tryz.prog 124 #[.string s, .int .i64 i, .int .i64 d] w (ReadPost w none) := by
  go_enter Tryz.func124, Tryz.ntmps124
  go_wp2_with fail
  exact bodyPost_ret (v := .tuple #[.agg #[.string ⟨#[]⟩, .slice none 0 0], .int .i64 (-1)]) (by simp [results, Tryz.results124, go_sem]) rfl (ReadPost.no rfl (below_two _ _ _))

set_option maxHeartbeats 800000 in
theorem l1Read_out (s : ByteArray) (i d : Nat) (w : World) (hd : d ≤ 100) (h : s.size ≤ i) :
    Calls Tryz.prog 124 #[.string s, .int .i64 i, .int .i64 d] w (ReadPost w none) := by
  go_enter Tryz.func124, Tryz.ntmps124
  go_wp2_with fail
  exact bodyPost_ret (v := .tuple #[.agg #[.string ⟨#[]⟩, .slice none 0 0], .int .i64 (-1)]) (by simp [results, Tryz.results124, go_sem]) rfl (ReadPost.no rfl (below_two _ _ _))

set_option maxHeartbeats 800000 in
theorem l1Read_atom (s : ByteArray) (i d : Nat) (w : World) (hs : s.size ≤ 100000) (hd : d ≤ 100) (h : i < s.size) (h40 : ((s[i].toNat : Int) == 40) = false) :
    Calls Tryz.prog 124 #[.string s, .int .i64 i, .int .i64 d] w
      (ReadPost w (atomRes s.data.toList i)) := by
  have h40' : ((s[i].toNat : Int) != 40) = true := by rw [bne, h40]; rfl
  have hE1 := endA_ge s.data.toList i
  have hE2 : endA s.data.toList i ≤ s.size := by
    have := endA_le s.data.toList i (by simp; omega)
    simpa using this
  have g1 : decide ((100 : Int) < (d : Int)) = false := by simp; omega
  have g2 : decide (s.size ≤ i) = false := by simp; omega
  go_enter Tryz.func124, Tryz.ntmps124
  go_wp2_with fail
  go_loop [1] (fun v => ∃ j : Nat, i ≤ j ∧ j ≤ s.size ∧ v = .int .i64 j ∧ Hid (endA s.data.toList i = endA s.data.toList j)) (fun v => s.size - (intOf v).toNat)
  case atStart => exact ⟨i, by omega, by omega, rfl, rfl⟩
  case round =>
    obtain ⟨j, hj1, hj2, rfl, he⟩ := hrel
    by_cases hlt : j < s.size
    · have hl : j < s.data.toList.length := by simpa using hlt
      by_cases hA : isAtomB s[j] = true
      · have HS := Lib.hid (endA_step s.data.toList j hl hA)
        have HA := Lib.hid hA
        clear hA
        go_wp2_with (go_at_call 141; refine (l1Byte_any _ _).mono ?_; rintro e w' ⟨rfl, rfl⟩; rw [HA.out])
        go_round
        case rel => exact ⟨j + 1, by omega, by omega, by go_num, he.out.trans HS.out⟩
        case measure => simp [intOf]; omega
      · have hA' : isAtomB s[j] = false := by simpa using hA
        have HS := Lib.hid (endA_stop s.data.toList j hl hA')
        have HA := Lib.hid hA'
        clear hA hA'
        by_cases hij : i < j
        · have hE : (s.extract i j).toList.isEmpty = false := by
            rw [extract_cut, ByteArray.toList_mk]; exact cut_ne _ _ _ hij (by simp; omega)
          have HR : Hid (atomRes s.data.toList i = some (.atom (cut s.data.toList i j), j)) := by
            show _ = _
            unfold atomRes
            rw [he.out, HS.out, if_pos hij]
          go_wp2_with (go_at_call 141; refine (l1Byte_any _ _).mono ?_; rintro e w' ⟨rfl, rfl⟩; rw [HA.out])
          exact bodyPost_ret (v := .tuple #[.agg #[.string (s.extract i j), .slice none 0 0], .int .i64 j]) (by simp [results, Tryz.results124, go_sem]) rfl (by
            rw [HR.out]
            refine ReadPost.yes rfl ?_ (below_two _ _ _)
            rw [RepSF, extract_cut]; rfl)
        · have hE : (s.extract i j).toList.isEmpty = true := by
            rw [extract_cut, ByteArray.toList_mk, show i = j by omega, cut_empty]; rfl
          have HR : Hid (atomRes s.data.toList i = none) := by
            show _ = _
            unfold atomRes
            rw [he.out, HS.out, if_neg hij]
          go_wp2_with (go_at_call 141; refine (l1Byte_any _ _).mono ?_; rintro e w' ⟨rfl, rfl⟩; rw [HA.out])
          exact bodyPost_ret (v := .tuple #[.agg #[.string (s.extract i j), .slice none 0 0], .int .i64 (-1)]) (by simp [results, Tryz.results124, go_sem]) rfl (by
            rw [HR.out]
            exact ReadPost.no rfl (below_two _ _ _))
    · have HS := Lib.hid (endA_out s.data.toList j (by simp; omega))
      by_cases hij : i < j
      · have hE : (s.extract i j).toList.isEmpty = false := by
          rw [extract_cut, ByteArray.toList_mk]; exact cut_ne _ _ _ hij (by simp; omega)
        have HR : Hid (atomRes s.data.toList i = some (.atom (cut s.data.toList i j), j)) := by
          show _ = _
          unfold atomRes
          rw [he.out, HS.out, if_pos hij]
        go_wp2_with fail
        exact bodyPost_ret (v := .tuple #[.agg #[.string (s.extract i j), .slice none 0 0], .int .i64 j]) (by simp [results, Tryz.results124, go_sem]) rfl (by
          rw [HR.out]
          refine ReadPost.yes rfl ?_ (below_two _ _ _)
          rw [RepSF, extract_cut]; rfl)
      · exact absurd hij (by omega)

end Go.Proofs.YtopmkddmllmecaaGreatDoor

/-! The walk of the model's reader: parentheses. -/
namespace Go.Proofs.YtopmkddmllmecaaGreatDoor
open Go.RowKit Rt

theorem rd_out (l : B) (f i d : Nat) (h : l.length ≤ i) : rd l (f + 1) i d = none := by
  rw [rd, List.getElem?_eq_none h, endA_out l i h]
  simp

theorem rd_atom (l : B) (f i d : Nat) (c : UInt8) (h : l[i]? = some c) (hc : c.toNat ≠ 40) : rd l (f + 1) i d = atomRes l i := by
  rw [rd, h, if_neg]
  · rfl
  · intro e
    injection e with e
    exact hc (by rw [e]; rfl)

theorem rd_open (l : B) (f i d : Nat) (h : l[i]? = some 40) (hd : d < 100) : rd l (f + 1) i d = (rdL l f (i + 1) (d + 1)).map (fun p => (Tree.list p.1, p.2)) := by
  rw [rd, if_pos h, if_pos hd]

theorem rd_deep (l : B) (f i d : Nat) (h : l[i]? = some 40) (hd : 100 ≤ d) : rd l (f + 1) i d = none := by
  rw [rd, if_pos h, if_neg (by omega)]

theorem tree_info : (Tryz.prog.info? 84).map (fun i => (i.zero, i.size, i.bytes)) = some (some (.agg #[.string ⟨#[]⟩, .slice none 0 0]), 2, 40) := by kernel_rfl

theorem own_block_lt {w : World} {base : Nat} {e : TypeId} {size n : Nat} {v : Value} {xs : List Value} (h : w.ownsRow base e size v n xs) : ∀ k, v.ownBlock = some k → base ≤ k ∧ k < w.heap.size := by
  intro k hk
  rcases h.2 with ⟨rfl, _⟩ | ⟨g, cap, cur, rfl, hg, hh, _⟩
  · simp [Value.ownBlock] at hk
  · simp [Value.ownBlock] at hk
    subst hk
    exact ⟨hg, (Array.getElem?_eq_some_iff.1 hh).1⟩

theorem own_cells {w : World} {base : Nat} {e : TypeId} {size n : Nat} {A : Option Addr} {c : Nat} {xs : List Value} (h : w.ownsRow base e size (.slice A n c) n xs) (hn : 0 < n) :
    ∃ g, A = some ⟨g, 0, none⟩ ∧ base ≤ g ∧ g < w.heap.size ∧ n ≤ c ∧ c ≤ maxLen ∧ Cells w g xs := by
  rcases h.2 with ⟨_, h0⟩ | ⟨g, cap, cur, hv, hg, hh, h1, h2, h3, h4⟩
  · omega
  · injection hv with e1 e2 e3
    subst e1
    subst e3
    refine ⟨g, rfl, hg, (Array.getElem?_eq_some_iff.1 hh).1, h1, h2, ?_⟩
    intro j u hu
    have := h.cells (g := g) rfl j u hu
    rw [Addr.add_lit, Nat.zero_add] at this
    exact this

theorem u8_of (c d : UInt8) (h : ((c.toNat : Int) == (d.toNat : Int)) = true) : c = d := UInt8.toNat.inj (by rw [beq_iff_eq] at h; omega)

theorem cell_two_new (w : World) (a b : Value) (t : TypeId) : ∀ j u, [a, b][j]? = some u → (w.alloc (.cells #[a, b] t)).cell? ((⟨w.heap.size, 0, none⟩ : Addr).add j) = some u := by
  intro j u hj
  match j, hj with
  | 0, hj => simp at hj; subst hj; simp [Addr.add]
  | 1, hj => simp at hj; subst hj; simp [Addr.add]
  | (j + 2), hj => simp at hj

theorem own_shape {w : World} {base : Nat} {e : TypeId} {size n : Nat} {v : Value} {xs : List Value} (h : w.ownsRow base e size v n xs) : ∃ A c, v = .slice A n c := by
  rcases h.2 with ⟨rfl, rfl⟩ | ⟨g, cap, cur, rfl, _⟩
  · exact ⟨_, _, rfl⟩
  · exact ⟨_, _, rfl⟩

/-- What holds at the head of the reader's loop. -/
structure ReadRel (l : B) (f i d B : Nat) (w : World) (wr : World) (j g : Nat) (acc : List Tree) (sv : Value) (xs : List Value) : Prop where
  lt : j < l.length
  cnt : acc.length ≤ j
  fuel : 2 * (l.length - (j + 1)) + 3 ≤ g
  le : g ≤ f
  res : rdL l f (i + 1) (d + 1) = (rdL l g (j + 1) (d + 1)).map (fun p => (acc ++ p.1, p.2))
  ret : Blk wr B 84 #[.string ⟨#[]⟩, .slice none 0 0]
  out : Blk wr (B + 1) 84 #[.string ⟨#[]⟩, sv]
  own : wr.ownsRow (B + 2) 84 2 sv acc.length xs
  rep : RepFF (fun k => B + 2 ≤ k ∧ some k ≠ sv.ownBlock) wr acc xs
  below : Below B w wr
  size : B + 2 ≤ wr.heap.size

set_option maxHeartbeats 1600000 in
set_option maxRecDepth 100000 in
theorem l1Read_open (s : ByteArray) (hs : s.size ≤ 100000) (f i d : Nat) (w : World) (hi : i < s.size) (hd : d < 100) (h40 : ((s[i].toNat : Int) == 40) = true) (hf : 2 * (s.size - (i + 1)) + 3 ≤ f)
    (ih : ∀ (f' i' d' : Nat) (w' : World), f' ≤ f → i' ≤ s.size → d' ≤ 100 → 2 * (s.size - i') + 2 ≤ f' → Calls Tryz.prog 124 #[.string s, .int .i64 i', .int .i64 d'] w' (ReadPost w' (rd s.data.toList f' i' d'))) :
    Calls Tryz.prog 124 #[.string s, .int .i64 i, .int .i64 d] w
      (ReadPost w ((rdL s.data.toList f (i + 1) (d + 1)).map (fun p => (Tree.list p.1, p.2)))) := by
  have h40' : ((s[i].toNat : Int) != 40) = false := by rw [bne, h40]; rfl
  have g1 : decide ((100 : Int) < (d : Int)) = false := by simp; omega
  have g2 : decide (s.size ≤ i) = false := by simp; omega
  have IH := Lib.hid ih
  clear ih
  obtain ⟨i0, hi0, hz0, hz1, hz2⟩ := info_parts tree_info
  have hsl : s.data.toList.length = s.size := by simp
  have HSL := Lib.hid hsl
  clear hsl
  generalize hr : (rdL s.data.toList f (i + 1) (d + 1)).map (fun p => (Tree.list p.1, p.2)) = r
  have HRR := Lib.hid hr
  clear hr
  go_enter Tryz.func124, Tryz.ntmps124
  go_wp2_with fail
  go_loopw [1] (fun v wr => ∃ j g acc sv xs, v = .int .i64 ((j : Nat) : Int) ∧ ReadRel s.data.toList f i d w.heap.size w wr j g acc sv xs) (fun v _ => s.size - (intOf v).toNat)
  case atStart =>
    refine ⟨i, f, [], .slice none 0 0, [], rfl, ?_⟩
    refine ⟨by rw [HSL.out]; omega, Nat.zero_le _, by rw [HSL.out]; omega, Nat.le_refl _, ?_, (Blk.new _ _ _).alloc _, ?_, World.ownsRow_nil _ _ _ _, by rw [RepFF], below_two _ _ _, by simp⟩
    · simp
    · have := Blk.new (w.alloc (.cells #[.string ⟨#[]⟩, .slice none 0 0] 84)) 84 #[.string ⟨#[]⟩, .slice none 0 0]
      simpa using this
  case round =>
    obtain ⟨j, g, acc, sv, xs, rfl, hrel⟩ := hrel
    have hj := hrel.lt
    rw [HSL.out] at hj
    obtain ⟨sA, sc, rfl⟩ := own_shape hrel.own
    have HREL := Lib.hid hrel
    clear hrel
    go_wp2_with fail
    have hB2 := HREL.out.size
    obtain ⟨g, rfl⟩ : ∃ g', g = g' + 1 := ⟨g - 1, by have := HREL.out.fuel; omega⟩
    have hg1 := HREL.out.fuel
    have hg2 := HREL.out.le
    rw [HSL.out] at hg1
    rw [show ((j : Int) + 1) = ((j + 1 : Nat) : Int) from rfl, show ((d : Int) + 1) = ((d + 1 : Nat) : Int) from rfl]
    refine (IH.out g (j + 1) (d + 1) wr (by omega) (by omega) (by omega) (by omega)).mono ?_
    intro e w2 hp
    have hres := HREL.out.res
    rw [rdL] at hres
    cases hrd : rd s.data.toList g (j + 1) (d + 1) with
    | none =>
      rw [hrd] at hp hres
      obtain ⟨hb, u, A, n, c, rfl⟩ := hp
      have hret := HREL.out.ret.below hb HREL.out.ret.lt
      have hout := HREL.out.out.below hb HREL.out.out.lt
      have r0 := fun o => (blk_cells (hret.alloc o)).1
      have r1 := fun o => (blk_cells (hret.alloc o)).2.1
      have z0 := fun o => (blk_cells (hret.alloc o)).2.2.1
      have z1 := fun o => (blk_cells (hret.alloc o)).2.2.2
      have o0 := fun o => (blk_cells (hout.alloc o)).1
      have o1 := fun o => (blk_cells (hout.alloc o)).2.1
      clear hret hout
      have hw2 : w.heap.size + 2 ≤ w2.heap.size := Nat.le_trans hB2 hb.size
      have hbb := HREL.out.below.trans (hb.mono (by omega))
      have HN : Hid (r = none) := by
        show _ = _
        rw [← HRR.out, hres]; rfl
      clear hres hrd hb
      go_wp2_with fail
      refine bodyPost_ret (v := .tuple #[.agg #[.string ⟨#[]⟩, .slice sA acc.length sc], .int .i64 (-1)]) ?_ rfl ?_
      · simp [results, Tryz.results124, go_sem, r0, r1]
      · rw [HN.out]
        refine ReadPost.no rfl ?_
        exact ((hbb.alloc (by omega) _).setCell (Nat.le_refl _) _).setCell (Nat.le_refl _) _
    | some p =>
      obtain ⟨t, e'⟩ := p
      rw [hrd] at hp hres
      obtain ⟨hb, v, rfl, hrep⟩ := hp
      obtain ⟨u, A, n, c, rfl⟩ := repS_shape (RepSF.rep _ _ hrep)
      have hret := HREL.out.ret.below hb HREL.out.ret.lt
      have hout := HREL.out.out.below hb HREL.out.out.lt
      have r0 := fun o => (blk_cells (hret.alloc o)).1
      have r1 := fun o => (blk_cells (hret.alloc o)).2.1
      have z0 := fun o => (blk_cells (hret.alloc o)).2.2.1
      have z1 := fun o => (blk_cells (hret.alloc o)).2.2.2
      have o0 := fun o => (blk_cells (hout.alloc o)).1
      have o1 := fun o => (blk_cells (hout.alloc o)).2.1
      have hw2 : w.heap.size + 2 ≤ w2.heap.size := Nat.le_trans hB2 hb.size
      have hbb := HREL.out.below.trans (hb.mono (by omega))
      obtain ⟨bd1, bd2⟩ := (rd_bounds s.data.toList g).1 _ _ _ _ hrd
      rw [HSL.out] at bd2
      by_cases he : e' < s.size
      · have HB := Lib.hid hb
        have HRET := Lib.hid hret
        have HOUT := Lib.hid hout
        have HRES := Lib.hid hres
        have HREP := Lib.hid hrep
        clear hb hret hout hres hrd hrep r0 r1 z0 z1
        have hown : w2.ownsRow (w.heap.size + 2) 84 2 (.slice sA acc.length sc) acc.length xs := by
          refine HREL.out.own.kept (row := none) ⟨HB.out.os, HB.out.tape, HB.out.output, HB.out.size, fun k hk _ => HB.out.block k hk⟩ ?_
          cases sA <;> simp [Value.ownBlock]
        have HOWN := Lib.hid hown
        clear hown
        go_wp2_with (at_builtin; refine wpList_append_own_at _ rfl _ _ 82 rfl (w.heap.size + 2) 84 i0 (.agg #[.string ⟨#[]⟩, .slice none 0 0]) 2 40 Tryz.underlying82 hi0 hz0 hz1 hz2 rfl (Nat.succ_pos 1) (.slice sA acc.length sc) acc.length xs rfl ((HOWN.out.alloc _).alloc _) ⟨w2.heap.size + 1, 0, none⟩ 1 1 [.string ⟨u.toArray⟩, .slice A n c] rfl rfl ?_ ?_ ?_ ?_ ?_ ?_)
        · intro j u' hj
          have := cell_two_new (w2.alloc (.cells #[.string ⟨u.toArray⟩, .slice A n c] 84)) (.string ⟨u.toArray⟩) (.slice A n c) 84 j u' hj
          simpa using this
        · intro x hx
          simp at hx
          rcases hx with rfl | rfl <;> rfl
        · have := HREL.out.cnt
          unfold maxLen; omega
        · have := HREL.out.cnt
          omega
        · simp; omega
        · intro v' w3 hown3 hgrow3 _ hat3
          obtain ⟨A3, c3, rfl⟩ := own_shape hown3
          have hnb := fun k hk => (own_block_lt HOWN.out k hk).1
          have hnw : ∀ k, (Value.slice sA acc.length sc).ownBlock = some k → k < wr.heap.size := fun k hk => (own_block_lt HREL.out.own k hk).2
          have hwr2 : wr.heap.size ≤ w2.heap.size := HB.out.size
          have hat4 : ∀ k, k < w2.heap.size → some k ≠ (Value.slice sA acc.length sc).ownBlock → some k ≠ (Value.slice A3 (acc.length + 1) c3).ownBlock := by
            intro k hk hne e
            rcases hat3 with h | h
            · rw [h] at e; exact hne e
            · rw [h] at e
              simp at e
              omega
          have hal : ∀ k, k < w2.heap.size → some k ≠ (Value.slice sA acc.length sc).ownBlock → w3.heap[k]? = w2.heap[k]? := by
            intro k hk hne
            rw [hgrow3.block k (by simp; omega) hne, Below.heap_alloc _ _ _ (by simp; omega), Below.heap_alloc _ _ _ hk]
          have hret3 : Blk w3 w.heap.size 84 #[.string ⟨#[]⟩, .slice none 0 0] := ((HRET.out.alloc _).alloc _).grown hgrow3 (fun e => by have := hnb _ e.symm; omega)
          have hout3 : Blk w3 (w.heap.size + 1) 84 #[.string ⟨#[]⟩, .slice sA acc.length sc] := ((HOUT.out.alloc _).alloc _).grown hgrow3 (fun e => by have := hnb _ e.symm; omega)
          have hbel3 : Below w.heap.size w w3 := ((hbb.alloc (by omega) _).alloc (by simp; omega) _).grown hgrow3 (by simp; omega) (fun k hk => by have := hnb k hk; omega)
          have hrep3 : RepFF (fun k => w.heap.size + 2 ≤ k ∧ some k ≠ (Value.slice A3 (acc.length + 1) c3).ownBlock) w3 (acc ++ [t]) (xs ++ [.string ⟨u.toArray⟩, .slice A n c]) := by
            refine RepFF.append _ _ _ _ ?_ (RepFF.one ?_)
            · refine RepFF.move ?_ ?_ _ _ HREL.out.rep
              · intro k hk hlt
                rw [hal k (by omega) hk.2]
                exact HB.out.block k hlt
              · intro k hk hlt
                exact ⟨hk.1, hat4 k (by omega) hk.2⟩
            · have hfar : ∀ k, wr.heap.size ≤ k → some k ≠ (Value.slice sA acc.length sc).ownBlock := fun k hk e => by have := hnw k e.symm; omega
              refine RepSF.move ?_ ?_ _ _ HREP.out
              · intro k hk hlt
                exact hal k hlt (hfar k hk)
              · intro k hk hlt
                exact ⟨by omega, hat4 k hlt (hfar k hk)⟩
          have hsz3 : w.heap.size + 2 ≤ w3.heap.size := Nat.le_trans (by simp; omega) hgrow3.size
          obtain ⟨r0, r1, z0, z1⟩ := blk_cells hret3
          obtain ⟨p0, p1, y0, y1⟩ := blk_cells hout3
          have HO3 := Lib.hid hown3
          have HT3 := Lib.hid hout3
          have HR3 := Lib.hid hret3
          have HB3 := Lib.hid hbel3
          have HP3 := Lib.hid hrep3
          clear hown3 hgrow3 hret3 hout3 hbel3 hrep3 o0 o1 hal hat3 hat4 hnb hnw
          have hx := byte_at s e' he
          by_cases h41 : ((s[e'].toNat : Int) == 41) = true
          · have hc41 : s[e'] = 41 := u8_of _ 41 h41
            have HR : Hid (r = some (.list (acc ++ [t]), e' + 1)) := by
              show _ = _
              rw [← HRR.out, HRES.out]
              simp [hx, hc41]
            clear hc41 hx
            go_wp2_with fail
            refine bodyPost_ret (v := .tuple #[.agg #[.string ⟨#[]⟩, .slice A3 (acc.length + 1) c3], .int .i64 (e' + 1)]) ?_ rfl ?_
            · simp [results, Tryz.results124, go_sem, r0, r1]
            · rw [HR.out]
              obtain ⟨g3, rfl, q1, q2, q3, q4, q5⟩ := own_cells HO3.out (Nat.succ_pos _)
              refine ReadPost.yes rfl ?_ (((HB3.out.setCell (by simp) _).setCell (Nat.le_refl _) _).setCell (Nat.le_refl _) _)
              have hal : ∀ k, w.heap.size + 2 ≤ k → (((w3.setCell ⟨w.heap.size + 1, 1, none⟩ (.slice (some ⟨g3, 0, none⟩) (acc.length + 1) c3)).setCell ⟨w.heap.size, 0, none⟩ (.string ⟨#[]⟩)).setCell ⟨w.heap.size, 1, none⟩ (.slice (some ⟨g3, 0, none⟩) (acc.length + 1) c3)).heap[k]? = w3.heap[k]? := by
                intro k hk
                rw [Below.heap_setCell _ _ _ _ (by show k ≠ w.heap.size; omega), Below.heap_setCell _ _ _ _ (by show k ≠ w.heap.size; omega), Below.heap_setCell _ _ _ _ (by show k ≠ w.heap.size + 1; omega)]
              rw [RepSF]
              refine ⟨g3, c3, xs ++ [.string ⟨u.toArray⟩, .slice A n c], by simp [st], by simpa using q3, q4, ?_, ?_, by omega, by simp⟩
              · intro j' u' hu'
                rw [World.cell?_of_block (a := ⟨g3, j', none⟩) (hal g3 q1)]
                exact q5 j' u' hu'
              · refine RepFF.move (F := fun k => w.heap.size + 2 ≤ k ∧ some k ≠ (Value.slice (some ⟨g3, 0, none⟩) (acc.length + 1) c3).ownBlock) ?_ ?_ _ _ HP3.out
                · intro k hk _
                  exact hal k hk.1
                · intro k hk _
                  omega
          · by_cases h32 : ((s[e'].toNat : Int) == 32) = true
            · have hc32 : s[e'] = 32 := u8_of _ 32 h32
              have h41' : ((s[e'].toNat : Int) == 41) = false := by simpa using h41
              have h32' : ((s[e'].toNat : Int) != 32) = false := by rw [bne, h32]; rfl
              have HR : Hid (rdL s.data.toList f (i + 1) (d + 1) = (rdL s.data.toList g (e' + 1) (d + 1)).map (fun p => (acc ++ [t] ++ p.1, p.2))) := by
                show _ = _
                rw [HRES.out]
                simp only [hx, hc32]
                cases rdL s.data.toList g (e' + 1) (d + 1) <;> simp
              clear hc32 hx h41 h32
              go_wp2_with fail
              go_roundw
              case rel =>
                refine ⟨e', g, acc ++ [t], .slice A3 (acc.length + 1) c3, xs ++ [.string ⟨u.toArray⟩, .slice A n c], rfl, ?_⟩
                have hcnt := HREL.out.cnt
                have hle := HREL.out.le
                have hfar : ∀ k, w.heap.size + 2 ≤ k → (w3.setCell ⟨w.heap.size + 1, 1, none⟩ (.slice A3 (acc.length + 1) c3)).heap[k]? = w3.heap[k]? := fun k hk =>
                  Below.heap_setCell _ _ _ _ (by show k ≠ w.heap.size + 1; omega)
                refine ⟨by rw [HSL.out]; omega, by simp; omega, by rw [HSL.out]; omega, by omega, HR.out, ?_, ?_, ?_, ?_, HB3.out.setCell (by simp) _, by simpa using hsz3⟩
                · exact HR3.out.far (by show w.heap.size ≠ w.heap.size + 1; omega) _
                · have := HT3.out.set_ 1 (.slice A3 (acc.length + 1) c3)
                  simpa using this
                · have := HO3.out.kept (row := some (w.heap.size + 1)) (w' := w3.setCell ⟨w.heap.size + 1, 1, none⟩ (.slice A3 (acc.length + 1) c3)) ⟨rfl, rfl, rfl, by simp, fun k hk hne => Below.heap_setCell _ _ _ _ (by intro e; exact hne (by rw [e]))⟩ (by
                    refine .inr (fun e => ?_)
                    have := (own_block_lt HO3.out _ e).1
                    omega)
                  simpa using this
                · refine RepFF.move (F := fun k => w.heap.size + 2 ≤ k ∧ some k ≠ (Value.slice A3 (acc.length + 1) c3).ownBlock) ?_ ?_ _ _ HP3.out
                  · intro k hk _
                    exact hfar k hk.1
                  · intro k hk _
                    exact hk
              case measure => simp [intOf]; omega
            · have hc41 : s[e'] ≠ 41 := fun e => h41 (by rw [e]; rfl)
              have hc32 : s[e'] ≠ 32 := fun e => h32 (by rw [e]; rfl)
              have h41' : ((s[e'].toNat : Int) == 41) = false := by simpa using h41
              have h32' : ((s[e'].toNat : Int) == 32) = false := by simpa using h32
              have h32'' : ((s[e'].toNat : Int) != 32) = true := by rw [bne, h32']; rfl
              have HN : Hid (r = none) := by
                show _ = _
                rw [← HRR.out, HRES.out]
                simp [hx, hc41, hc32]
              clear hc41 hc32 hx h41 h32
              go_wp2_with fail
              refine bodyPost_ret (v := .tuple #[.agg #[.string ⟨#[]⟩, .slice A3 (acc.length + 1) c3], .int .i64 (-1)]) ?_ rfl ?_
              · simp [results, Tryz.results124, go_sem, r0, r1]
              · rw [HN.out]
                exact ReadPost.no rfl (((HB3.out.setCell (by simp) _).setCell (Nat.le_refl _) _).setCell (Nat.le_refl _) _)
      · have HN : Hid (r = none) := by
          show _ = _
          rw [← HRR.out, hres]
          simp [show s.data.toList[e']? = none from List.getElem?_eq_none (by rw [HSL.out]; omega)]
        clear hres hrd hb hret hout hrep
        have g3 : decide ((e' : Int) < 0) = false := by simp
        have g4 : decide (s.size ≤ e') = true := by simp; omega
        go_wp2_with fail
        refine bodyPost_ret (v := .tuple #[.agg #[.string ⟨#[]⟩, .slice sA acc.length sc], .int .i64 (-1)]) ?_ rfl ?_
        · simp [results, Tryz.results124, go_sem, r0, r1]
        · rw [HN.out]
          refine ReadPost.no rfl ?_
          exact ((hbb.alloc (by omega) _).setCell (Nat.le_refl _) _).setCell (Nat.le_refl _) _

end Go.Proofs.YtopmkddmllmecaaGreatDoor

/-! The walks of the model's reader, whole, and of l1Parse. -/
namespace Go.Proofs.YtopmkddmllmecaaGreatDoor
open Go.RowKit Rt

set_option maxHeartbeats 800000 in
set_option maxRecDepth 100000 in
theorem l1Read_hundred (s : ByteArray) (hs : s.size ≤ 100000) (i : Nat) (w : World) (hi : i < s.size) (h40 : ((s[i].toNat : Int) == 40) = true) :
    Calls Tryz.prog 124 #[.string s, .int .i64 i, .int .i64 ((100 : Nat) : Int)] w (ReadPost w none) := by
  have h40' : ((s[i].toNat : Int) != 40) = false := by rw [bne, h40]; rfl
  have g2 : decide (s.size ≤ i) = false := by simp; omega
  rw [show (((100 : Nat) : Int)) = 100 from rfl]
  go_enter Tryz.func124, Tryz.ntmps124
  go_wp2_with fail
  refine wp_loop_rounds 1 ?_
  rw [rounds_succ]
  go_wp2_with fail
  have hret : Blk ((w.alloc (.cells #[.string ⟨#[]⟩, .slice none 0 0] 84)).alloc (.cells #[.string ⟨#[]⟩, .slice none 0 0] 84)) w.heap.size 84 #[.string ⟨#[]⟩, .slice none 0 0] := (Blk.new _ _ _).alloc _
  have hout : Blk ((w.alloc (.cells #[.string ⟨#[]⟩, .slice none 0 0] 84)).alloc (.cells #[.string ⟨#[]⟩, .slice none 0 0] 84)) (w.heap.size + 1) 84 #[.string ⟨#[]⟩, .slice none 0 0] := by
    have := Blk.new (w.alloc (.cells #[.string ⟨#[]⟩, .slice none 0 0] 84)) 84 #[.string ⟨#[]⟩, .slice none 0 0]
    simpa using this
  have hW := below_two w (.cells #[.string ⟨#[]⟩, .slice none 0 0] 84) (.cells #[.string ⟨#[]⟩, .slice none 0 0] 84)
  generalize (w.alloc (.cells #[.string ⟨#[]⟩, .slice none 0 0] 84)).alloc (.cells #[.string ⟨#[]⟩, .slice none 0 0] 84) = W at *
  rw [show ((i : Int) + 1) = ((i + 1 : Nat) : Int) from rfl, show (101 : Int) = ((101 : Nat) : Int) from rfl]
  refine (l1Read_deep s (i + 1) 101 W (by omega)).mono ?_
  rintro e w2 ⟨hb, u, A, n, c, rfl⟩
  have hret2 := hret.below hb hret.lt
  have hout2 := hout.below hb hout.lt
  have hbb := hW.trans (hb.mono hW.size)
  have hsz : w.heap.size ≤ w2.heap.size := hbb.size
  have r0 := fun o => (blk_cells (hret2.alloc o)).1
  have r1 := fun o => (blk_cells (hret2.alloc o)).2.1
  have z0 := fun o => (blk_cells (hret2.alloc o)).2.2.1
  have z1 := fun o => (blk_cells (hret2.alloc o)).2.2.2
  have o0 := fun o => (blk_cells (hout2.alloc o)).1
  have o1 := fun o => (blk_cells (hout2.alloc o)).2.1
  have hw2 : w.heap.size + 2 ≤ w2.heap.size := hout2.lt
  clear hret hout hW hb hret2 hout2
  go_wp2_with fail
  refine bodyPost_ret (v := .tuple #[.agg #[.string ⟨#[]⟩, .slice none 0 0], .int .i64 (-1)]) ?_ rfl ?_
  · simp [results, Tryz.results124, go_sem, r0, r1]
  · exact ReadPost.no rfl (((hbb.alloc hsz _).setCell (Nat.le_refl _) _).setCell (Nat.le_refl _) _)

set_option maxHeartbeats 400000 in
theorem l1Read_any (s : ByteArray) (hs : s.size ≤ 100000) (n : Nat) : ∀ (f i d : Nat) (w : World), f ≤ n → i ≤ s.size → d ≤ 100 → 2 * (s.size - i) + 2 ≤ f →
    Calls Tryz.prog 124 #[.string s, .int .i64 i, .int .i64 d] w (ReadPost w (rd s.data.toList f i d)) := by
  induction n with
  | zero => intro f i d w h1 h2 h3 h4; omega
  | succ n ih =>
    intro f i d w h1 h2 h3 h4
    have hsl : s.data.toList.length = s.size := by simp
    obtain ⟨f, rfl⟩ : ∃ f', f = f' + 1 := ⟨f - 1, by omega⟩
    by_cases hi : i < s.size
    · have hx := byte_at s i hi
      by_cases h40 : ((s[i].toNat : Int) == 40) = true
      · have hc : s[i] = 40 := u8_of _ 40 h40
        rw [hc] at hx
        by_cases hd : d < 100
        · rw [rd_open _ _ _ _ hx hd]
          exact l1Read_open s hs f i d w hi hd h40 (by omega) (fun f' i' d' w' q1 q2 q3 q4 => ih f' i' d' w' (by omega) q2 q3 q4)
        · rw [rd_deep _ _ _ _ hx (by omega)]
          have hd' : d = 100 := by omega
          subst hd'
          exact l1Read_hundred s hs i w hi h40
      · have hx' := rd_atom s.data.toList f i d s[i] hx (fun e => h40 (by rw [beq_iff_eq]; omega))
        rw [hx']
        exact l1Read_atom s i d w hs h3 hi (by simpa using h40)
    · rw [rd_out _ _ _ _ (by omega)]
      exact l1Read_out s i d w h3 (by omega)


/-- What a text that is parsed hands back. -/
def ParsePost (w : World) (r : Option Tree) (e : Ending) (w' : World) : Prop :=
  Below w.heap.size w w' ∧ match r with
    | some t => ∃ v, e = .returned (.tuple #[v, .bool true]) ∧ RepSF (fun k => w.heap.size ≤ k) w' t v
    | none => ∃ (u : ByteArray) (A : Option Addr) (n c : Nat), e = .returned (.tuple #[.agg #[.string u, .slice A n c], .bool false])

theorem ParsePost.no {w w' : World} {u : ByteArray} {A : Option Addr} {n c : Nat} {e : Ending} (h : e = .returned (.tuple #[.agg #[.string u, .slice A n c], .bool false])) (hb : Below w.heap.size w w') : ParsePost w none e w' := ⟨hb, u, A, n, c, h⟩
theorem ParsePost.yes {w w' : World} {t : Tree} {v : Value} {e : Ending} (h : e = .returned (.tuple #[v, .bool true])) (hr : RepSF (fun k => w.heap.size ≤ k) w' t v) (hb : Below w.heap.size w w') : ParsePost w (some t) e w' := ⟨hb, v, h, hr⟩

set_option maxHeartbeats 800000 in
theorem l1Parse_any (s : ByteArray) (hm : s.size ≤ maxLen) (w : World) :
    Calls Tryz.prog 108 #[.string s] w (ParsePost w (parse s.data.toList)) := by
  unfold maxLen at hm
  have hsl : s.data.toList.length = s.size := by simp
  by_cases h : s.size ≤ 4000
  · have HC := Lib.hid (l1Read_any s (by omega) (2 * s.size + 4) (2 * s.size + 4) 0 0)
    generalize hp : parse s.data.toList = r
    have HP : Hid ((match rd s.data.toList (2 * s.size + 4) 0 0 with | some (t, e) => if e = s.size then some t else none | none => none) = r) := by
      show _ = _
      rw [← hp, parse, if_pos (by omega), hsl]
      cases rd s.data.toList (2 * s.size + 4) 0 0 with
      | none => rfl
      | some p => obtain ⟨t, e⟩ := p; rfl
    clear hp hsl
    go_enter Tryz.func108, Tryz.ntmps108
    go_wp2_with fail
    have hret := Blk.new w 84 #[.string ⟨#[]⟩, .slice none 0 0]
    have hW := below_one w (.cells #[.string ⟨#[]⟩, .slice none 0 0] 84)
    generalize w.alloc (.cells #[.string ⟨#[]⟩, .slice none 0 0] 84) = W at *
    refine (HC.out W (Nat.le_refl _) (Nat.zero_le _) (by omega) (by omega)).mono ?_
    intro e w2 hpost
    have HP2 := HP.out
    cases hrd : rd s.data.toList (2 * s.size + 4) 0 0 with
    | none =>
      rw [hrd] at hpost HP2
      obtain ⟨hb, u, A, n, c, rfl⟩ := hpost
      have hret2 := hret.below hb hret.lt
      have hbb := hW.trans (hb.mono hW.size)
      have r0 := fun o => (blk_cells (hret2.alloc o)).1
      have r1 := fun o => (blk_cells (hret2.alloc o)).2.1
      have z0 := fun o => (blk_cells (hret2.alloc o)).2.2.1
      have z1 := fun o => (blk_cells (hret2.alloc o)).2.2.2
      have hlt : w.heap.size + 1 ≤ w2.heap.size := hret2.lt
      have q : ((-1 : Int) == (s.size : Int)) = false := by simp
      have HN : Hid (r = none) := HP2.symm
      clear hret hW hb hret2 hrd HP2
      go_wp2_with fail
      refine bodyPost_ret (v := .tuple #[.agg #[.string u, .slice A n c], .bool false]) ?_ rfl ?_
      · simp [results, Tryz.results108, go_sem, r0, r1]
      · rw [HN.out]
        exact ParsePost.no rfl (((hbb.alloc (by omega) _).setCell (Nat.le_refl _) _).setCell (Nat.le_refl _) _)
    | some p =>
      obtain ⟨t, j⟩ := p
      rw [hrd] at hpost HP2
      obtain ⟨hb, v, rfl, hrep⟩ := hpost
      obtain ⟨u, A, n, c, rfl⟩ := repS_shape (RepSF.rep _ _ hrep)
      have hret2 := hret.below hb hret.lt
      have hbb := hW.trans (hb.mono hW.size)
      have r0 := fun o => (blk_cells (hret2.alloc o)).1
      have r1 := fun o => (blk_cells (hret2.alloc o)).2.1
      have z0 := fun o => (blk_cells (hret2.alloc o)).2.2.1
      have z1 := fun o => (blk_cells (hret2.alloc o)).2.2.2
      have hlt : w.heap.size + 1 ≤ w2.heap.size := hret2.lt
      have hlW : w.heap.size + 1 ≤ W.heap.size := hret.lt
      have HREP := Lib.hid hrep
      by_cases hj : j = s.size
      · have HN : Hid (r = some t) := by show _ = _; rw [← HP2]; simp [hj]
        have q : ((j : Int) == (s.size : Int)) = true := by simp; omega
        clear hret hW hb hret2 hrd HP2 hrep hj
        go_wp2_with fail
        refine bodyPost_ret (v := .tuple #[.agg #[.string ⟨u.toArray⟩, .slice A n c], .bool true]) ?_ rfl ?_
        · simp [results, Tryz.results108, go_sem, r0, r1]
        · rw [HN.out]
          refine ParsePost.yes rfl ?_ (((hbb.alloc (by omega) _).setCell (Nat.le_refl _) _).setCell (Nat.le_refl _) _)
          refine RepSF.move ?_ ?_ _ _ HREP.out
          · intro k hk hk2
            rw [Below.heap_setCell _ _ _ _ (by show k ≠ w.heap.size; omega), Below.heap_setCell _ _ _ _ (by show k ≠ w.heap.size; omega), Below.heap_alloc _ _ _ hk2]
          · intro k hk _
            omega
      · have HN : Hid (r = none) := by show _ = _; rw [← HP2]; simp [hj]
        have q : ((j : Int) == (s.size : Int)) = false := by simp; omega
        clear hret hW hb hret2 hrd HP2 hrep hj
        go_wp2_with fail
        refine bodyPost_ret (v := .tuple #[.agg #[.string ⟨u.toArray⟩, .slice A n c], .bool false]) ?_ rfl ?_
        · simp [results, Tryz.results108, go_sem, r0, r1]
        · rw [HN.out]
          exact ParsePost.no rfl (((hbb.alloc (by omega) _).setCell (Nat.le_refl _) _).setCell (Nat.le_refl _) _)
  · have HP : Hid (parse s.data.toList = none) := by
      show _ = _
      rw [parse, if_neg (by omega)]
    clear hsl
    rw [HP.out]
    go_enter Tryz.func108, Tryz.ntmps108
    go_wp2_with fail
    exact bodyPost_ret (v := .tuple #[.agg #[.string ⟨#[]⟩, .slice none 0 0], .bool false]) (by simp [results, Tryz.results108, go_sem]) rfl (ParsePost.no rfl (below_one _ _))

end Go.Proofs.YtopmkddmllmecaaGreatDoor
