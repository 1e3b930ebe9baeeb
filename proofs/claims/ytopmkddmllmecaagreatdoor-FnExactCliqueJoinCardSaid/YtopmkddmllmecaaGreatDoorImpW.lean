/- The walk of fromBag: the loop. The walk of fromBag: a bag. The walk of fromPart: app. The walk of fromPart: app, the last step. The walk of fromPart: app. -/
import Derived.Test.YtopmkddmllmecaaGreatDoorImpS
/-! The walk of fromBag: the loop. -/
namespace Go.Proofs.YtopmkddmllmecaaGreatDoor
open Go.RowKit Rt Go.Lib
open Go.ChangeMaps Go.MapKept Go.Maps Go.WideMaps

/-- The blocks of the terms: not the row's own. -/
def Foot (F : Nat → Prop) (w : World) (sv : Value) (k : Nat) : Prop := (F k ∨ w.heap.size ≤ k) ∧ some k ≠ sv.ownBlock

/-- What holds at the head of fromBag's loop. -/
structure FromRel (F : Nat → Prop) (w wr : World) (p m n K : Nat) (b : List Tree) (j : Nat) (acc : List Term) (sv : Value) (xs : List Value) (D : DataW Value) (n' : Nat) : Prop where
  le : j ≤ b.length
  res : toTerms K (b.take j) = some acc
  own : wr.ownsRow w.heap.size 74 1 sv j xs
  rep : RepPsF (Foot F w sv) wr (sorts acc) xs
  pool : Pool (Foot F w sv) wr p m n' D
  cnt : n' ≤ n + nodesL (b.take j)
  grown : w.grownBy wr (some m)

theorem toTerms_snoc (K : Nat) : ∀ (b : List Tree) (j : Nat) (x : Tree) (acc : List Term) (t : Term), b[j]? = some x → toTerms K (b.take j) = some acc → toTerm K x = some t → toTerms K (b.take (j + 1)) = some (acc ++ [t])
  | [], j, x, acc, t, h, _, _ => by simp at h
  | y :: b, 0, x, acc, t, h, h2, h3 => by
    simp at h; subst h
    simp [toTerms] at h2; subst h2
    simp [toTerms, h3]
  | y :: b, j + 1, x, acc, t, h, h2, h3 => by
    rw [List.take_succ_cons, toTerms] at h2 ⊢
    cases hy : toTerm K y with
    | none => rw [hy] at h2; cases h2
    | some u =>
      rw [hy] at h2
      simp only [Option.map_eq_some_iff] at h2
      obtain ⟨acc', e1, rfl⟩ := h2
      simp only
      rw [toTerms_snoc K b j x acc' t (by simpa using h) e1 h3]
      rfl

theorem toTerms_none (K : Nat) : ∀ (b : List Tree) (j : Nat) (x : Tree), b[j]? = some x → toTerm K x = none → toTerms K b = none
  | [], j, x, h, _ => by simp at h
  | y :: b, 0, x, h, h2 => by simp at h; subst h; rw [toTerms, h2]
  | y :: b, j + 1, x, h, h2 => by
    rw [toTerms]
    cases toTerm K y with
    | none => rfl
    | some u => simp only; rw [toTerms_none K b j x (by simpa using h) h2]; rfl

theorem nodesL_take : ∀ (b : List Tree) (j : Nat) (x : Tree), b[j]? = some x → nodesL (b.take (j + 1)) = nodesL (b.take j) + nodes x
  | [], j, x, h => by simp at h
  | y :: b, 0, x, h => by simp at h; subst h; simp [nodesL]
  | y :: b, j + 1, x, h => by
    rw [List.take_succ_cons, List.take_succ_cons, nodesL, nodesL, nodesL_take b j x (by simpa using h)]; omega

theorem nodesL_take_le : ∀ (b : List Tree) (j : Nat), nodesL (b.take j) ≤ nodesL b
  | [], j => by simp
  | y :: b, 0 => by simp [nodesL]
  | y :: b, j + 1 => by rw [List.take_succ_cons, nodesL, nodesL]; have := nodesL_take_le b j; omega

end Go.Proofs.YtopmkddmllmecaaGreatDoor

/-! The walk of fromBag: a bag. -/
namespace Go.Proofs.YtopmkddmllmecaaGreatDoor
open Go.RowKit Rt Go.Lib
open Go.ChangeMaps Go.MapKept Go.Maps Go.WideMaps

theorem RepXsF.at {F : Nat → Prop} {w : World} : ∀ (l : List Tree) (xs : List Value) (i : Nat) (t : Tree), RepXsF F w l xs → l[i]? = some t → ∃ x, xs[i]? = some x ∧ RepXF F w t x
  | [], _, _, _, _, h => by simp at h
  | u :: l, xs, i, t, e, h => by
    rw [RepXsF] at e
    obtain ⟨x, r, rfl, h3, h4⟩ := e
    cases i with
    | zero => simp at h; subst h; exact ⟨x, rfl, h3⟩
    | succ i => simp at h; simpa using RepXsF.at l r i t h4 h

theorem RepPsF.append {F : Nat → Prop} {w : World} : ∀ (l m : List Term) (xs ys : List Value), RepPsF F w l xs → RepPsF F w m ys → RepPsF F w (l ++ m) (xs ++ ys)
  | [], m, xs, ys, e, f => by rw [RepPsF] at e; subst e; exact f
  | t :: l, m, xs, ys, e, f => by
    rw [RepPsF] at e
    obtain ⟨x, r, rfl, h3, h4⟩ := e
    rw [List.cons_append, RepPsF]
    exact ⟨x, r ++ ys, rfl, h3, RepPsF.append l m r ys h4 f⟩

theorem sorts_snoc (l : List Term) (t : Term) : sorts (l ++ [t]) = sorts l ++ [sort t] := by
  rw [sorts_map, sorts_map, List.map_append]; rfl

theorem len_textL (l : List Tree) : l.length ≤ (textL l).length + 1 := by
  by_cases h : l = []
  · subst h; simp
  · rw [textL_sum l h]
    clear h
    induction l with
    | nil => simp
    | cons t l ih => simp; omega

/-- One term more. -/
theorem FromRel.next {F : Nat → Prop} {w wr w1 w3 : World} {p m n K : Nat} {b : List Tree} {j : Nat} {acc : List Term} {g' c' g3 c3 n' n1 : Nat} {xs : List Value} {D' D1 : DataW Value} {x : Tree} {t : Term} {u : Value}
    (h : FromRel F w wr p m n K b j acc (.slice (some ⟨g', 0, none⟩) j c') xs D' n') (hw : p + 1 ≤ w.heap.size) (hm : m + 1 ≤ w.heap.size) (hFm : ¬ F m) (hx : b[j]? = some x) (ht : toTerm K x = some t) (hlt : j < b.length)
    (hg1 : wr.grownBy w1 (some m)) (hn1 : n1 ≤ n' + nodes x) (hu : RepPF (fun k => Foot F w (.slice (some ⟨g', 0, none⟩) j c') k ∨ wr.heap.size ≤ k) w1 (sort t) u) (hp : Pool (fun k => Foot F w (.slice (some ⟨g', 0, none⟩) j c') k ∨ wr.heap.size ≤ k) w1 p m n1 D1)
    (hown3 : w3.ownsRow w.heap.size 74 1 (.slice (some ⟨g3, 0, none⟩) (j + 1) c3) (j + 1) (xs ++ [u])) (hgrow3 : (w1.alloc (.cells #[u] 74)).grownBy w3 (some g')) (hat : g3 = g' ∨ w1.heap.size + 1 ≤ g3) :
    FromRel F w w3 p m n K b (j + 1) (acc ++ [t]) (.slice (some ⟨g3, 0, none⟩) (j + 1) c3) (xs ++ [u]) D1 n1 := by
  obtain ⟨hgb, hgl⟩ := own_block_lt h.own g' rfl
  have hs0 := h.grown.size
  have hs1 := hg1.size
  have hs3 : w1.heap.size + 1 ≤ w3.heap.size := by have := hgrow3.size; simpa using this
  have h31 : ∀ k, k < w1.heap.size → k ≠ g' → w3.heap[k]? = w1.heap[k]? := by
    intro k hk hne
    rw [hgrow3.block k (by simp; omega) (by intro e; injection e with e; exact hne e), Below.heap_alloc _ _ _ hk]
  have h1r : ∀ k, k < wr.heap.size → k ≠ m → w1.heap[k]? = wr.heap[k]? := fun k hk hne => hg1.block k hk (by intro e; injection e with e; exact hne e)
  have hfoot : ∀ k, Foot F w (.slice (some ⟨g', 0, none⟩) j c') k → k ≠ g' ∧ (F k ∨ w.heap.size ≤ k) := by
    rintro k ⟨h1, h2⟩
    exact ⟨fun e => h2 (by simp [Value.ownBlock, e]), h1⟩
  have hmk : ∀ k, (F k ∨ w.heap.size ≤ k) → k < w1.heap.size → k ≠ g' → Foot F w (.slice (some ⟨g3, 0, none⟩) (j + 1) c3) k := by
    intro k h1 h2 h3
    refine ⟨h1, ?_⟩
    simp [Value.ownBlock]
    rcases hat with e | e <;> omega
  have hne : ∀ k, (F k ∨ w.heap.size ≤ k) → k ≠ m := by
    rintro k (h1 | h1) e
    · exact hFm (e ▸ h1)
    · omega
  refine ⟨hlt, toTerms_snoc K b j x acc t hx h.res ht, hown3, ?_, ?_, ?_, ?_⟩
  · rw [sorts_snoc]
    refine RepPsF.append _ _ _ _ ?_ ?_
    · refine RepPsF.move ?_ ?_ _ _ h.rep
      · intro k hk hk2
        obtain ⟨a1, a2⟩ := hfoot k hk
        rw [h31 k (by omega) a1, h1r k hk2 (hne k a2)]
      · intro k hk hk2
        obtain ⟨a1, a2⟩ := hfoot k hk
        exact hmk k a2 (by omega) a1
    · rw [RepPsF]
      refine ⟨u, [], rfl, RepPF.move ?_ ?_ _ _ hu, by rw [RepPsF]⟩
      · rintro k (hk | hk) hk2
        · exact h31 k hk2 (hfoot k hk).1
        · exact h31 k hk2 (by omega)
      · rintro k (hk | hk) hk2
        · exact hmk k (hfoot k hk).2 hk2 (hfoot k hk).1
        · exact hmk k (.inr (by omega)) hk2 (by omega)
  · refine hp.go (h31 p (by omega) (by omega)) (h31 m (by omega) (by omega)) ?_ ?_ ?_
    · rintro k (hk | hk) hk2
      · exact h31 k hk2 (hfoot k hk).1
      · exact h31 k hk2 (by omega)
    · rintro k (hk | hk) hk2
      · exact hmk k (hfoot k hk).2 hk2 (hfoot k hk).1
      · exact hmk k (.inr (by omega)) hk2 (by omega)
    · rintro ⟨h1 | h1, _⟩
      · exact hFm h1
      · omega
  · rw [nodesL_take b j x hx]
    have := h.cnt
    omega
  · have hG := h.grown.trans hg1
    refine ⟨hgrow3.os.trans hG.os, hgrow3.tape.trans hG.tape, hgrow3.output.trans hG.output, by omega, ?_⟩
    intro k hk hne'
    rw [h31 k (by omega) (by omega)]
    exact hG.block k hk hne'

set_option maxHeartbeats 3200000 in
set_option maxRecDepth 100000 in
theorem fromBag_list (X F : Nat → Prop) (b : List Tree) (v : Value) (k p m n N : Nat) (D : DataW Value) (w : World) (IH : PartSaid X p m N) (hN : ∀ (j : Nat) (x : Tree), b[j]? = some x → nodes x ≤ N) (hI : PartIn X w m (.list (.atom sM :: b)) v k) (hn : n + nodes (.list (.atom sM :: b)) ≤ 900000) (hP : Pool F w p m n D) :
    Calls Tryz.prog 128 #[.pointer (some ⟨p, 0, none⟩), v, .int .i64 k] w (BagRes F w p m n (nodes (.list (.atom sM :: b))) ((toTerms k b).map sorts)) := by
  obtain ⟨i0, hi0, hz0, hz1, hz2⟩ := info_parts term_info
  have hr := hI.rep
  rw [RepXF] at hr
  obtain ⟨bb, g, c, xs, rfl, h1, h2, h3, h4, h5, h6, hb, hg, hne⟩ := hr
  rw [RepXsF] at h6
  obtain ⟨x0, ys, rfl, h7, h6⟩ := h6
  rw [RepXF] at h7
  obtain ⟨b0, rfl, a1, _⟩ := h7
  have e0 : w.cell? ⟨g, 0, none⟩ = some (.pointer (some ⟨b0, 0, none⟩)) := h5 0 _ rfl
  rw [st_eq] at h1 a1
  have q0 : ((⟨sM.toArray⟩ : ByteArray).toList == [109]) = true := by rw [ByteArray.toList_eq]; rfl
  generalize (⟨sM.toArray⟩ : ByteArray) = sl at *
  have hlen := hI.len
  have hdep := hI.dep
  have hbl : b.length ≤ 4000 := by
    have := len_textL (.atom sM :: b)
    rw [textT] at hlen
    simp at hlen this
    omega
  have HLEN : Hid (∀ (j : Nat) (x : Tree), b[j]? = some x → (textT x).length ≤ 4000) := by
    intro j x hx
    have := textL_mem (.atom sM :: b) (j + 1) x (by simpa using hx)
    rw [textT] at hlen
    simp at hlen
    omega
  clear hlen
  have hL : ((b.length : Int) + 1 == 0) = false := by simp; omega
  simp only [List.length_cons] at h2 h3
  have h2' := cell_alloc h2
  have H5 := Lib.hid h5
  have H6 := Lib.hid h6
  have HN := Lib.hid hN
  have HI := Lib.hid hI
  have HP := Lib.hid hP
  have HIH := Lib.hid IH
  generalize hRR : (toTerms k b).map sorts = r
  have HR := Lib.hid hRR
  generalize hnd : nodes (.list (.atom sM :: b)) = nd at *
  have HND : Hid (nd = nodesL b + 2) := by show _ = _; rw [← hnd]; simp only [nodes, nodesL]; omega
  clear hI h5 h6 hN hP IH hRR hnd hne
  by_cases hc1 : c = 1
  · subst hc1
    have hb0 : b = [] := List.eq_nil_of_length_eq_zero (by omega)
    subst hb0
    have HRR : Hid (r = some []) := by show _ = _; rw [← HR.out, toTerms]; rfl
    simp only [List.length_nil, Nat.zero_add] at *
    go_enter Tryz.func128, Tryz.ntmps128
    go_wp2_with fail
    go_loopw [8, 38] (fun sv iv wr => iv = .int .i64 0 ∧ sv = .slice (some ⟨w.heap.size, 0, none⟩) 0 0 ∧ wr = w.alloc (.cells #[] 74)) (fun _ iv _ => 0)
    case atStart => exact ⟨rfl, rfl, rfl⟩
    case round =>
      obtain ⟨rfl, rfl, rfl⟩ := hrel
      go_wp2_with fail
      refine bodyPost_ret (v := .tuple #[.slice (some ⟨w.heap.size, 0, none⟩) 0 0, .bool true]) ?_ rfl ?_
      · simp [results, Tryz.results128, go_sem]
      · rw [HRR.out]
        refine ⟨⟨rfl, rfl, rfl, by simp, fun k' hk' _ => Below.heap_alloc w _ k' hk'⟩, w.heap.size, 0, [], D, n, rfl, by omega, fun i u hu => by simp at hu, by rw [RepPsF], ?_⟩
        refine HP.out.go (Below.heap_alloc w _ p HP.out.plt) (Below.heap_alloc w _ m HP.out.map.lt) (fun k' _ hk' => Below.heap_alloc w _ k' hk') (fun k' hk' _ => .inl hk') ?_
        rintro (h | h)
        · exact HP.out.far h
        · have := HP.out.map.lt; omega
  go_enter Tryz.func128, Tryz.ntmps128
  go_wp2_with fail
  go_loopw [8, 38] (fun sv iv wr => ∃ j acc xs D' n', iv = .int .i64 (j : Nat) ∧ (∃ g' c', sv = .slice (some ⟨g', 0, none⟩) j c') ∧ Hid (FromRel F w wr p m n k b j acc sv xs D' n')) (fun _ iv _ => b.length - (intOf iv).toNat)
  case atStart =>
    refine ⟨0, [], [], D, n, rfl, ⟨_, _, rfl⟩, ⟨Nat.zero_le _, by simp [toTerms], own_new w 74 #[] 0 1 w.heap.size (Nat.le_refl _) rfl (by decide), by rw [sorts, RepPsF], ?_, by simp [nodesL], ⟨rfl, rfl, rfl, by simp, fun k' hk' _ => Below.heap_alloc w _ k' hk'⟩⟩⟩
    refine HP.out.go (Below.heap_alloc w _ p HP.out.plt) (Below.heap_alloc w _ m HP.out.map.lt) (fun k' _ hk' => Below.heap_alloc w _ k' hk') (fun k' hk' hk2 => ⟨.inl hk', by simp [Value.ownBlock]; omega⟩) ?_
    rintro ⟨h | h, _⟩
    · exact HP.out.far h
    · have := HP.out.map.lt; omega
  case round =>
    obtain ⟨j, acc, xs, D', n', rfl, ⟨g', c', rfl⟩, hrel⟩ := hrel
    have hj := hrel.out.le
    by_cases hlt : j < b.length
    · obtain ⟨x, hx⟩ : ∃ x, b[j]? = some x := ⟨_, List.getElem?_eq_getElem hlt⟩
      obtain ⟨xv, hxv, hrep⟩ := RepXsF.at _ ys j x H6.out hx
      have hgr := hrel.out.grown
      have halX : AlikeAt X w wr := fun k' hk' hk2 => hgr.block k' hk2 (by intro e; injection e with e; exact HI.out.far (e ▸ hk'))
      have e1 : wr.cell? ⟨g, 1 + j, none⟩ = some xv := halX.cell hg (H5.out (1 + j) xv (by rw [Nat.add_comm]; exact hxv))
      have hin : PartIn X wr m x xv k := ⟨RepXF.move halX (fun _ h _ => h) _ _ hrep, HI.out.far, HLEN.out j x hx, by have := nodesL_take_le b (j + 1); rw [nodesL_take b j x hx] at this; have := HND.out; omega⟩
      have hnj := nodesL_take_le b (j + 1)
      rw [nodesL_take b j x hx] at hnj
      have hcnt := hrel.out.cnt
      have hndd := HND.out
      have HC := Lib.hid (HIH.out (Foot F w (.slice (some ⟨g', 0, none⟩) j c')) x xv k n' D' wr (HN.out j x hx) hin (by omega) hrel.out.pool)
      have HX := Lib.hid hx
      have HGR := Lib.hid hgr
      clear hxv hrep hgr halX hin hx
      cases ht : toTerm k x with
      | none =>
        rw [ht] at HC
        have HRN : Hid (r = none) := by show _ = _; rw [← HR.out, toTerms_none k b j x HX.out ht]; rfl
        clear ht
        go_wp2_with (go_at_call 112; refine HC.out.mono ?_; rintro e w1 ⟨hg1, rfl⟩; have HG1 := Lib.hid hg1; clear hg1)
        all_goals
          refine bodyPost_ret (v := .tuple #[.slice none 0 0, .bool false]) ?_ rfl ?_
          · simp [results, Tryz.results128, go_sem]
          · exact BagRes.no HRN.out (HGR.out.trans HG1.out) rfl
      | some t =>
        rw [ht] at HC
        have HTT := Lib.hid ht
        clear ht
        go_wp2_with (first
          | (go_at_call 112; refine HC.out.mono ?_; rintro e w1 ⟨hg1, u, D1, n1, rfl, hn1, hu, hp⟩; obtain ⟨ub, _, _, _, rfl, -⟩ := RepPF.head _ _ hu; have HG1 := Lib.hid hg1; have HU := Lib.hid hu; have HPP := Lib.hid hp; have hown1 := hrel.out.own.kept hg1 (.inr (fun e => by have := (own_block_lt hrel.out.own m e).1; have := HP.out.map.lt; omega)); have HOWN := Lib.hid hown1; clear hg1 hu hp hown1)
          | (at_builtin; refine wpList_append_own_at _ rfl _ _ 75 rfl w.heap.size 74 i0 (.pointer none) 1 8 Tryz.underlying75 hi0 hz0 hz1 hz2 rfl (Nat.succ_pos 0) (.slice (some ⟨g', 0, none⟩) j c') j xs rfl (HOWN.out.alloc _) ⟨w1.heap.size, 0, none⟩ 1 1 [.pointer (some ⟨ub, 0, none⟩)] rfl rfl (cell_one_new _ _ _) ?_ ?_ ?_ ?_ ?_))
        · intro u' hu'
          simp at hu'; subst hu'; rfl
        · unfold maxLen; omega
        · omega
        · have := HGR.out.size
          have := HG1.out.size
          simp; omega
        · intro v' w3 hown3 hgrow3 _ hat3
          obtain ⟨A3, c3, rfl⟩ := own_shape hown3
          obtain ⟨g3, rfl, -⟩ := own_cells hown3 (Nat.succ_pos _)
          have hrel3 := hrel.out.next HP.out.plt HP.out.map.lt HP.out.far HX.out HTT.out hlt HG1.out hn1 HU.out HPP.out hown3 hgrow3 (by
            rcases hat3 with e | e
            · simp [Value.ownBlock] at e; exact .inl e
            · simp [Value.ownBlock] at e; exact .inr (by omega))
          have HREL3 := Lib.hid hrel3
          clear hown3 hgrow3 hat3 hrel3
          go_wp2_with fail
          go_roundw
          case rel => exact ⟨j + 1, _, _, D1, n1, by go_num, ⟨_, _, rfl⟩, HREL3.out⟩
          case measure => simp [intOf]; omega
    · have hjb : j = b.length := by omega
      subst hjb
      have HRR : Hid (r = some (sorts acc)) := by
        show _ = _
        have := hrel.out.res
        rw [List.take_of_length_le (Nat.le_refl _)] at this
        rw [← HR.out, this]; rfl
      go_wp2_with fail
      refine bodyPost_ret (v := .tuple #[.slice (some ⟨g', 0, none⟩) b.length c', .bool true]) ?_ rfl ?_
      · simp [results, Tryz.results128, go_sem]
      · rw [HRR.out]
        have hl1 := RepPsF.length _ _ hrel.out.rep
        have hl2 := hrel.out.own.1
        have hc := hrel.out.cnt
        rw [List.take_of_length_le (Nat.le_refl _)] at hc
        have := HND.out
        refine ⟨hrel.out.grown, g', c', xs, D', n', ?_, by omega, ?_, ?_, ?_⟩
        · have : (sorts acc).length = b.length := by omega
          rw [this]
        · intro i u hu
          have hpos : 0 < b.length := by
            have := (List.getElem?_eq_some_iff.1 hu).1
            omega
          obtain ⟨g4, e1, _, _, _, _, h5⟩ := own_cells hrel.out.own hpos
          injection e1 with e1
          injection e1 with e1
          subst e1
          exact h5 i u hu
        · exact RepPsF.wider hrel.out.rep (fun k hk => hk.1)
        · refine hrel.out.pool.wider (fun k hk => hk.1) ?_
          rintro (h | h)
          · exact HP.out.far h
          · have := HP.out.map.lt; omega

end Go.Proofs.YtopmkddmllmecaaGreatDoor

/-! The walk of fromPart: app. -/
namespace Go.Proofs.YtopmkddmllmecaaGreatDoor
open Go.RowKit Rt Go.Lib
open Go.ChangeMaps Go.MapKept Go.Maps Go.WideMaps

/-- fromBag at any part. -/
theorem fromBag_any (X F : Nat → Prop) (y : Tree) (v : Value) (k p m n N : Nat) (D : DataW Value) (w : World) (IH : PartSaid X p m N) (hN : nodes y ≤ N) (hI : PartIn X w m y v k) (hn : n + nodes y ≤ 900000) (hP : Pool F w p m n D) :
    Calls Tryz.prog 128 #[.pointer (some ⟨p, 0, none⟩), v, .int .i64 k] w (BagRes F w p m n (nodes y) ((bagOf k y).map sorts)) := by
  by_cases h : headT y = sM
  · have : ∃ b, y = .list (.atom sM :: b) := by
      match y, h with
      | .atom a, h => exact absurd h (by simp [headT, sM])
      | .list [], h => exact absurd h (by simp [headT, sM])
      | .list (.list _ :: _), h => exact absurd h (by simp [headT, sM])
      | .list (.atom m :: b), h => exact ⟨b, by rw [show m = sM from h]⟩
    obtain ⟨b, rfl⟩ := this
    rw [bagOf, if_pos rfl]
    refine fromBag_list X F b v k p m n N D w IH ?_ hI hn hP
    intro j x hx
    have := nodesL_at b j x hx
    simp only [nodes, nodesL] at hN
    omega
  · exact fromBag_no X F y v k p m n (nodes y) w hI (by simpa [sM] using h)

theorem toTerm_app (k : Nat) (x y : Tree) : toTerm k (.list [.atom sApp, x, y]) = (match toTerm k x with | none => none | some t => (bagOf k y).map (.app t)) := by
  match y with
  | .atom a => simp [toTerm, bagOf]; cases toTerm k x <;> rfl
  | .list [] => simp [toTerm, bagOf]; cases toTerm k x <;> rfl
  | .list (.list _ :: _) => simp [toTerm, bagOf]; cases toTerm k x <;> rfl
  | .list (.atom a :: b) =>
    rw [toTerm, if_pos rfl, bagOf]
    cases toTerm k x with
    | none => rfl
    | some t =>
      simp only
      by_cases h : a = sM
      · rw [if_pos h, if_pos h]
      · rw [if_neg h, if_neg h]; rfl

end Go.Proofs.YtopmkddmllmecaaGreatDoor

/-! The walk of fromPart: app, the last step. -/
namespace Go.Proofs.YtopmkddmllmecaaGreatDoor
open Go.RowKit Rt Go.Lib
open Go.ChangeMaps Go.MapKept Go.Maps Go.WideMaps

theorem app_step (F : Nat → Prop) (t : Term) (b : List Term) (k p m n2 g c : Nat) (D2 : DataW Value) (u : Value) (xs : List Value) (w w1 w2 : World) (hok : ok k (.app t b) = true) (hlen : (text (.app t b)).length ≤ 4000) (hsz : size (.app t b) ≤ 900000) (hn : n2 < 1000000)
    (hFm : ¬ F m) (hm : m + 1 ≤ w.heap.size) (hg1 : w.grownBy w1 (some m)) (hg2 : w1.grownBy w2 (some m)) (hu : RepPF (fun k => F k ∨ w.heap.size ≤ k) w1 (sort t) u) (hc : Cells w2 g xs)
    (hx : RepPsF (fun k => (F k ∨ w.heap.size ≤ k) ∨ w1.heap.size ≤ k) w2 (sorts b) xs) (hP : Pool (fun k => (F k ∨ w.heap.size ≤ k) ∨ w1.heap.size ≤ k) w2 p m n2 D2) :
    Calls Tryz.prog 106 #[.pointer (some ⟨p, 0, none⟩), u, .slice (some ⟨g, 0, none⟩) (sorts b).length c] w2 (PoolPost F w p m (n2 + 1) (sort (.app t b))) := by
  have hs1 := hg1.size
  have hs2 := hg2.size
  have hne : ∀ k, (F k ∨ w.heap.size ≤ k) → k ≠ m := by
    rintro k (h1 | h1) e
    · exact hFm (e ▸ h1)
    · omega
  have hok' : ok k (sort (.app t b)) = true := by rw [ok_sort]; exact hok
  have hok2 : oks k (sorts b) = true := by
    rw [oks_sorts]
    rw [ok, Bool.and_eq_true] at hok
    exact hok.2
  have hl : (sorts b).length ≤ 100000 := by
    rw [sorts_length]
    have := bag_len t b
    omega
  have hF : ∀ k, ((F k ∨ w.heap.size ≤ k) ∧ k < w2.heap.size) → k < w2.heap.size := fun k h => h.2
  have hx2 : RepPsF (fun k => (F k ∨ w.heap.size ≤ k) ∧ k < w2.heap.size) w2 (sorts b) xs := by
    refine RepPsF.move (fun _ _ _ => rfl) ?_ _ _ hx
    rintro k (h | h) hk
    · exact ⟨h, hk⟩
    · exact ⟨.inr (by omega), hk⟩
  have hu2 : RepPF (fun k => (F k ∨ w.heap.size ≤ k) ∧ k < w2.heap.size) w2 (sort t) u := by
    refine RepPF.move ?_ ?_ _ _ hu
    · intro k hk hk2
      exact hg2.block k hk2 (by intro e; injection e with e; exact hne k hk e)
    · exact fun k hk hk2 => ⟨hk, by omega⟩
  have hP2 : Pool (fun k => (F k ∨ w.heap.size ≤ k) ∧ k < w2.heap.size) w2 p m n2 D2 := by
    refine hP.go rfl rfl (fun _ _ _ => rfl) ?_ (fun h => hne m h.1 rfl)
    rintro k (h | h) hk
    · exact ⟨h, hk⟩
    · exact ⟨.inr (by omega), hk⟩
  have hS := sortedBag_any _ (sorts b) k g c xs w2 hok2 hl hF hc hx2
  have e : sort (.app t b) = .app (sort t) (sortBag (sorts b)) := by rw [sort]
  have h := app_any _ (sort t) (sorts b) k u _ p m n2 D2 w2 (by rw [← e]; exact hok') (by rw [← e, text_sort_len]; omega) hl (by rw [← e, size_sort]; omega) hn hF hP2 hu2 hS
  rw [← e] at h
  refine h.mono ?_
  rintro e' w3 ⟨hg3, v, D, he, h1, h2⟩
  refine ⟨(hg1.trans hg2).trans hg3, v, D, he, RepPF.wider h1 ?_, Pool.wider h2 ?_ ?_⟩
  · rintro k (hk | hk)
    · exact hk.1
    · exact .inr (by omega)
  · rintro k (hk | hk)
    · exact hk.1
    · exact .inr (by omega)
  · exact fun h => hne m h rfl

end Go.Proofs.YtopmkddmllmecaaGreatDoor

/-! The walk of fromPart: app. -/
namespace Go.Proofs.YtopmkddmllmecaaGreatDoor
open Go.RowKit Rt Go.Lib
open Go.ChangeMaps Go.MapKept Go.Maps Go.WideMaps

set_option maxHeartbeats 3200000 in
set_option maxRecDepth 100000 in
theorem fromPart_app (X F : Nat → Prop) (x y : Tree) (v : Value) (k p m n N : Nat) (D : DataW Value) (w : World) (IH : PartSaid X p m N) (hx : nodes x ≤ N) (hy : nodes y ≤ N) (hI : PartIn X w m (.list [.atom sApp, x, y]) v k) (hn : n + nodes (.list [.atom sApp, x, y]) ≤ 900000) (hP : Pool F w p m n D) :
    Calls Tryz.prog 112 #[.pointer (some ⟨p, 0, none⟩), v, .int .i64 k] w (PartPost F w p m n (nodes (.list [.atom sApp, x, y])) ((toTerm k (.list [.atom sApp, x, y])).map sort)) := by
  have hT := toTerm_app k x y
  have hr := hI.rep
  rw [RepXF] at hr
  obtain ⟨b, g, c, xs, rfl, h1, h2, h3, h4, h5, h6, hb, hg, _⟩ := hr
  rw [RepXsF] at h6
  obtain ⟨x0, xs, rfl, h7, h6⟩ := h6
  rw [RepXF] at h7
  obtain ⟨b0, rfl, a1, a2, _⟩ := h7
  rw [RepXsF] at h6
  obtain ⟨x1, xs, rfl, h8, h6⟩ := h6
  rw [RepXsF] at h6
  obtain ⟨x2, xs, rfl, h9, _⟩ := h6
  have e0 : w.cell? ⟨g, 0, none⟩ = some (.pointer (some ⟨b0, 0, none⟩)) := h5 0 _ rfl
  have e1 : w.cell? ⟨g, 1, none⟩ = some x1 := h5 1 _ rfl
  have e2 : w.cell? ⟨g, 2, none⟩ = some x2 := h5 2 _ rfl
  have hnod : nodes (.list [.atom sApp, x, y]) = nodes x + nodes y + 2 := by simp only [nodes, nodesL]; omega
  have hlen := hI.len
  have hl2 : (textT x).length + (textT y).length + 7 = (textT (.list [.atom sApp, x, y])).length := by simp [textT, textL, sApp]; omega
  have hd := hI.dep
  have hIx : PartIn X w m x x1 k := ⟨h8, hI.far, by omega, by omega⟩
  have HC := Lib.hid (IH F x x1 k n D w hx hIx (by omega) hP)
  have HW : Hid (∀ w1 : World, w.grownBy w1 (some m) → w1.cell? ⟨b, 1, none⟩ = some (.slice (some ⟨g, 0, none⟩) 3 c) ∧ w1.cell? ⟨g, 2, none⟩ = some x2 ∧ PartIn X w1 m y x2 k) := by
    intro w1 hg1
    have hal : AlikeAt X w w1 := fun k' hk' hk2 => hg1.block k' hk2 (by intro e; injection e with e; exact hI.far (e ▸ hk'))
    exact ⟨hal.cell hb h2, hal.cell hg e2, RepXF.move hal (fun _ h _ => h) _ _ h9, hI.far, by omega, by omega⟩
  have HB : Hid (∀ (w1 : World) (F1 : Nat → Prop) (n1 : Nat) (D1 : DataW Value), PartIn X w1 m y x2 k → n1 + nodes y ≤ 900000 → Pool F1 w1 p m n1 D1 → Calls Tryz.prog 128 #[.pointer (some ⟨p, 0, none⟩), x2, .int .i64 k] w1 (BagRes F1 w1 p m n1 (nodes y) ((bagOf k y).map sorts))) := fun w1 F1 n1 D1 hi h hp => fromBag_any X F1 y x2 k p m n1 N D1 w1 IH hy hi h hp
  rw [st_eq] at h1 a1
  have q0 : ((⟨sApp.toArray⟩ : ByteArray).toList == [108, 97, 109]) = false := by rw [ByteArray.toList_eq]; rfl
  have q1 : ((⟨sApp.toArray⟩ : ByteArray).toList == [97, 112, 112]) = true := by rw [ByteArray.toList_eq]; rfl
  have HP := Lib.hid hP
  simp only [List.length_cons, List.length_nil] at h2 h3
  generalize (⟨sApp.toArray⟩ : ByteArray) = sl at *
  cases ht : toTerm k x with
  | none =>
    rw [ht] at hT HC
    have HR : Hid ((toTerm k (.list [.atom sApp, x, y])).map sort = none) := by show _ = _; rw [hT]; rfl
    generalize (toTerm k (.list [.atom sApp, x, y])).map sort = r at HR ⊢
    clear hI hIx hT ht h5 h8 h9 IH hP
    go_enter Tryz.func112, Tryz.ntmps112
    go_wp2_with (go_at_call 112; refine HC.out.mono ?_; rintro e w1 ⟨hg1, rfl⟩; have HG := Lib.hid hg1; clear hg1)
    all_goals
      refine bodyPost_ret (v := .tuple #[.pointer none, .bool false]) ?_ rfl ?_
      · simp [results, Tryz.results112, go_sem]
      · exact PartPost.no HR.out HG.out rfl
  | some t =>
    rw [ht] at hT HC
    simp only at hT
    cases hbo : bagOf k y with
    | none =>
      rw [hbo] at hT HB
      have HR : Hid ((toTerm k (.list [.atom sApp, x, y])).map sort = none) := by show _ = _; rw [hT]; rfl
      generalize (toTerm k (.list [.atom sApp, x, y])).map sort = r at HR ⊢
      clear hI hIx hT ht hbo h5 h8 h9 IH hP
      go_enter Tryz.func112, Tryz.ntmps112
      go_wp2_with (first
        | (go_at_call 112; refine HC.out.mono ?_; rintro e w1 ⟨hg1, u, D1, n1, rfl, hn1, hu, hp⟩; obtain ⟨z1, z2, z3⟩ := HW.out w1 hg1; have HB1 := Lib.hid (HB.out w1 _ n1 D1 z3 (by omega) hp); have HG := Lib.hid hg1; clear hg1 hu hp z3)
        | (go_at_call 128; refine HB1.out.mono ?_; rintro e w2 ⟨hg2, rfl⟩; have HG2 := Lib.hid hg2; clear hg2))
      all_goals
        refine bodyPost_ret (v := .tuple #[.pointer none, .bool false]) ?_ rfl ?_
        · simp [results, Tryz.results112, go_sem]
        · exact PartPost.no HR.out (HG.out.trans HG2.out) rfl
    | some bg =>
      rw [hbo] at hT HB
      simp only [Option.map_some] at hT
      obtain ⟨hof, hok⟩ := toTerm_some _ _ _ hT
      have HR : Hid ((toTerm k (.list [.atom sApp, x, y])).map sort = some (sort (.app t bg))) := by show _ = _; rw [hT]; rfl
      have hz := sizeImp_nodes (.app t bg)
      rw [← hof] at hz
      have htl : (text (.app t bg)).length ≤ 4000 := by rw [text, ← hof]; exact hlen
      have HA : Hid (∀ (w1 w2 : World) (n2 g' c' : Nat) (D2 : DataW Value) (u : Value) (xs : List Value), n2 < 1000000 → w.grownBy w1 (some m) → w1.grownBy w2 (some m) → RepPF (fun k => F k ∨ w.heap.size ≤ k) w1 (sort t) u → Cells w2 g' xs → RepPsF (fun k => (F k ∨ w.heap.size ≤ k) ∨ w1.heap.size ≤ k) w2 (sorts bg) xs → Pool (fun k => (F k ∨ w.heap.size ≤ k) ∨ w1.heap.size ≤ k) w2 p m n2 D2 →
          Calls Tryz.prog 106 #[.pointer (some ⟨p, 0, none⟩), u, .slice (some ⟨g', 0, none⟩) (sorts bg).length c'] w2 (PoolPost F w p m (n2 + 1) (sort (.app t bg)))) :=
        fun w1 w2 n2 g' c' D2 u xs a b c d e f h => app_step F t bg k p m n2 g' c' D2 u xs w w1 w2 hok htl (by omega) a HP.out.far HP.out.map.lt b c d e f h
      generalize (toTerm k (.list [.atom sApp, x, y])).map sort = r at HR ⊢
      clear hI hIx hT ht hbo h5 h8 h9 IH hP hof hok htl hz
      go_enter Tryz.func112, Tryz.ntmps112
      go_wp2_with (first
        | (go_at_call 112; refine HC.out.mono ?_; rintro e w1 ⟨hg1, u, D1, n1, rfl, hn1, hu, hp⟩; obtain ⟨z1, z2, z3⟩ := HW.out w1 hg1; have HB1 := Lib.hid (HB.out w1 _ n1 D1 z3 (by omega) hp); have HG := Lib.hid hg1; have HU := Lib.hid hu; clear hg1 hu hp z3)
        | (go_at_call 128; refine HB1.out.mono ?_; rintro e w2 ⟨hg2, g', c', xs2, D2, n2, rfl, hn2, hc2, hx2, hp2⟩; have HAA := Lib.hid (HA.out w1 w2 n2 g' c' D2 u xs2 (by omega) HG.out hg2 HU.out hc2 hx2 hp2); clear hg2 hc2 hx2 hp2)
        | (go_at_call 106; refine HAA.out.mono ?_; rintro e w3 hq; have HQ := Lib.hid hq; obtain ⟨-, u2, D3, rfl, -, -⟩ := hq))
      all_goals
        refine bodyPost_ret (v := .tuple #[u2, .bool true]) ?_ rfl ?_
        · simp [results, Tryz.results112, go_sem]
        · exact PartPost.more HR.out (by omega) HQ.out

/-- fromPart at any part. -/
theorem partSaid (X : Nat → Prop) (p m : Nat) : ∀ N, PartSaid X p m N
  | 0 => by
    intro F x v k n D w hN
    have := nodes_pos x
    omega
  | N + 1 => by
    intro F x v k n D w hN hI hn hP
    have IH := partSaid X p m N
    cases x with
    | atom a => exact fromPart_atom X F a v k p m n D w hI (by simpa [nodes] using hn) hP
    | list l =>
      rcases shapes k l with ⟨⟨s1, s2⟩, s3⟩ | ⟨s1, s2, s3⟩ | ⟨y, rfl, s1⟩ | ⟨s1, s2, s3, s4⟩ | ⟨y, z, rfl, _, _⟩ | ⟨y, bg, rfl, _⟩
      · exact fromPart_no X F l v k p m n _ w hI s3 (.inl ⟨s1, s2⟩)
      · exact fromPart_no X F l v k p m n _ w hI s3 (.inr (.inl ⟨s1, s2⟩))
      · exact fromPart_lam X F y v k p m n N D w IH (by simp only [nodes, nodesL] at hN; omega) hI hn hP s1
      · exact fromPart_no X F l v k p m n _ w hI s4 (.inr (.inr ⟨s1, s2, s3⟩))
      · exact fromPart_app X F y z v k p m n N D w IH (by simp only [nodes, nodesL] at hN; omega) (by simp only [nodes, nodesL] at hN; omega) hI hn hP
      · exact fromPart_app X F y _ v k p m n N D w IH (by simp only [nodes, nodesL] at hN; omega) (by simp only [nodes, nodesL] at hN ⊢; omega) hI hn hP

theorem below_grown {w w' : World} (h : Below w.heap.size w w') (row : Option Nat) : w.grownBy w' row := ⟨h.os, h.tape, h.output, h.size, fun k hk _ => h.block k hk⟩

theorem grown_cell {w w' : World} {m c j : Nat} {x : Value} (hg : w.grownBy w' (some m)) (hc : c ≠ m) (h : w.cell? ⟨c, j, none⟩ = some x) : w'.cell? ⟨c, j, none⟩ = some x := by
  rw [World.cell?_of_block (a := ⟨c, j, none⟩) (hg.block c (World.block_lt_of_cell? w _ h) (by intro e; injection e with e; exact hc e))]
  exact h

end Go.Proofs.YtopmkddmllmecaaGreatDoor
