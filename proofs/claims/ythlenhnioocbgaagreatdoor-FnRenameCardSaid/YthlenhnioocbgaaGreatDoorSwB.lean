/- The walk of the program's swap, at lam and at app. -/
import Derived.Test.YthlenhnioocbgaaGreatDoorSwA
namespace Go.Proofs.YthlenhnioocbgaaGreatDoor
open Go.RowKit Rt Go.Lib
open Go.ChangeMaps Go.MapKept Go.Maps Go.WideMaps

/-- What swap does at terms of size N or less. -/
def SwapSaid (fv : Value) (L : Nat → Term → Term) (a p m : Nat) (Keep : World → Prop) (N : Nat) : Prop :=
  ∀ (F : Nat → Prop) (t : Term) (v : Value) (k n : Nat) (D : DataW Value) (w : World), size t ≤ N → k + size t ≤ 100 → ok (k + a) t = true → n + size t ≤ 900000 → Keep w → RepPF F w t v → Pool F w p m n D →
    Calls Tryz.prog 92 #[.pointer (some ⟨p, 0, none⟩), v, .int .i64 k, fv] w (SwapPost F w p m n (size t) (sort (swp L k t)))

theorem SwapPost.lam {F : Nat → Prop} {w w3 w4 : World} {p m n n' c : Nat} {t : Term} {e : Ending} (hg : w.grownBy w3 (some m)) (hm : ¬ F m) (hmw : m + 1 ≤ w.heap.size) (hn : n' + 1 ≤ n + c) (h : PoolPost (fun k => F k ∨ w.heap.size ≤ k) w3 p m (n' + 1) t e w4) : SwapPost F w p m n c t e w4 :=
  SwapPost.of hn (PoolPost.elder3 hg hm hmw h)

set_option maxHeartbeats 1600000 in
set_option maxRecDepth 100000 in
theorem swap_lam (fv : Value) (L : Nat → Term → Term) (a b p m : Nat) (Keep : World → Prop) (hL : LeafOk L a b) (N : Nat) (IH : SwapSaid fv L a p m Keep N) (F : Nat → Prop) (t : Term) (v : Value) (k n : Nat) (D : DataW Value) (w : World)
    (hN : size t ≤ N) (hk : k + size (.lam t) ≤ 100) (hok : ok (k + a) (.lam t) = true) (hn : n + size (.lam t) ≤ 900000) (hK : Keep w) (hv : RepPF F w (.lam t) v) (hP : Pool F w p m n D) :
    Calls Tryz.prog 92 #[.pointer (some ⟨p, 0, none⟩), v, .int .i64 k, fv] w (SwapPost F w p m n (size (.lam t)) (sort (swp L k (.lam t)))) := by
  obtain ⟨z1, z2⟩ := swp_ok L a b hL (.lam t) k hk hok
  have z3 := text_size _ _ z2
  have z4 := text_sort_len (swp L k (.lam t))
  have hsz : size (.lam t) = 1 + size t := by rw [Rt.size]
  have hkk : size t ≤ 100 := by omega
  rw [RepPF] at hv
  obtain ⟨bb, pp, rfl, h6, ht, hb⟩ := hv
  obtain ⟨c0, c1, c2, c3, c4, c5⟩ := h6
  have hok' : ok (k + 1 + a) t = true := by rw [ok] at hok; rw [show k + 1 + a = k + a + 1 by omega]; exact hok
  have hC := IH F t pp (k + 1) n D w hN (by omega) hok' (by omega) hK ht hP
  have e1 : (((k + 1 : Nat)) : Int) = (k : Int) + 1 := by omega
  rw [e1] at hC
  have HC := Lib.hid hC
  have HL : Hid (∀ (w1 : World) (v1 : Value) (n1 : Nat) (D1 : DataW Value), w.grownBy w1 (some m) → n1 ≤ n + size t → RepPF (fun q => F q ∨ w.heap.size ≤ q) w1 (sort (swp L (k + 1) t)) v1 → Pool (fun q => F q ∨ w.heap.size ≤ q) w1 p m n1 D1 →
      Calls Tryz.prog 91 #[.pointer (some ⟨p, 0, none⟩), v1] w1 (SwapPost F w p m n (size (.lam t)) (sort (swp L k (.lam t))))) := by
    intro w1 v1 n1 D1 hg1 hn1 hr1 hp1
    have e2 : sort (swp L k (.lam t)) = .lam (sort (swp L (k + 1) t)) := by rw [swp, sort]
    have z5 : size (sort (swp L (k + 1) t)) ≤ 1000000 := by
      have := size_sort (swp L k (.lam t))
      rw [e2, Rt.size] at this
      omega
    rw [e2]
    refine (lam_any _ (sort (swp L (k + 1) t)) (k + b) v1 p m n1 D1 w1 ?_ ?_ z5 (by omega) hp1 hr1).mono (fun e w' hh => SwapPost.lam hg1 hP.far hP.map.lt (by omega) hh)
    · rw [← e2, ok_sort]; exact z2
    · rw [← e2, z4]; omega
  have c0' : w.cell? ⟨bb, 0, none⟩ = some (.int .i64 2) := c0
  generalize sort (swp L k (.lam t)) = r at HL ⊢
  generalize size (.lam t) = cc at HL ⊢
  clear z1 z2 z3 z4 hC ht hP hK hL IH hok hok' e1 c0 c1 c2 c3 c5 hsz
  go_enter Tryz.func92, Tryz.ntmps92
  go_wp2_with (first
    | (go_at_call 92; refine HC.out.mono ?_; rintro e w1 ⟨hg1, v1, D1, n1, rfl, hn1, hr1, hp1⟩; have HL1 := Lib.hid (HL.out w1 v1 n1 D1 hg1 hn1 hr1 hp1); clear hg1 hr1 hp1)
    | (go_at_call 91; refine HL1.out.mono ?_; rintro e w2 hq; obtain ⟨b2, rfl⟩ := hq.shape; have HQ := Lib.hid hq; clear hq))
  go_ret
  exact HQ.out

set_option maxHeartbeats 3200000 in
set_option maxRecDepth 100000 in
theorem swap_app (fv : Value) (L : Nat → Term → Term) (a b p m : Nat) (Keep : World → Prop) (hin : SwapIn fv L a p m Keep) (hL : LeafOk L a b) (N : Nat) (IH : SwapSaid fv L a p m Keep N) (F : Nat → Prop) (t : Term) (l : List Term) (v : Value) (k n : Nat) (D : DataW Value) (w : World)
    (hN : size t + sizes l ≤ N) (hk : k + size (.app t l) ≤ 100) (hok : ok (k + a) (.app t l) = true) (hn : n + size (.app t l) ≤ 900000) (hK : Keep w) (hv : RepPF F w (.app t l) v) (hP : Pool F w p m n D) :
    Calls Tryz.prog 92 #[.pointer (some ⟨p, 0, none⟩), v, .int .i64 k, fv] w (SwapPost F w p m n (size (.app t l)) (sort (swp L k (.app t l)))) := by
  obtain ⟨i0, hi0, hz0, hz1, hz2⟩ := info_parts term_info
  obtain ⟨z1, z2⟩ := swp_ok L a b hL (.app t l) k hk hok
  have z3 := text_size _ _ z2
  have hsz : size (.app t l) = 1 + size t + sizes l := by rw [Rt.size]
  rw [hsz] at z1
  have hbl : l.length ≤ 100 := by
    have : ∀ l : List Term, l.length ≤ sizes l := by
      intro l
      induction l with
      | nil => simp
      | cons u l ih => have := size_pos u; simp only [sizes, List.length_cons]; omega
    have := this l
    omega
  rw [RepPF] at hv
  obtain ⟨bb, pp, q, ys, rfl, h6, ht, hrow, hys, hb⟩ := hv
  obtain ⟨c0, c1, c2, c3, c4, c5⟩ := h6
  obtain ⟨A, c, rfl, hc1, hc2, hA⟩ := hrow
  have c0' : w.cell? ⟨bb, 0, none⟩ = some (.int .i64 3) := c0
  rw [ok, Bool.and_eq_true] at hok
  have HOK1 := Lib.hid hok.1
  have HOK2 := Lib.hid hok.2
  have HIN := Lib.hid hin
  have HIH := Lib.hid IH
  have HKP := Lib.hid hK
  have HT := Lib.hid ht
  have HYS := Lib.hid hys
  have HA := Lib.hid hA
  have HP := Lib.hid hP
  have HFIN : Hid (∀ (w2 : World) (g c' n2 : Nat) (u : Value) (xs : List Value) (D2 : DataW Value), n2 ≤ n + size t + sizes l → w.grownBy w2 (some m) → RepPF (fun q => F q ∨ w.heap.size ≤ q) w2 (sort (swp L k t)) u → Cells w2 g xs → RepPsF (fun q => F q ∨ w.heap.size ≤ q) w2 (sorts (swps L k l)) xs → Pool (fun q => F q ∨ w.heap.size ≤ q) w2 p m n2 D2 →
      Calls Tryz.prog 107 #[.pointer (some ⟨p, 0, none⟩), u, .slice (some ⟨g, 0, none⟩) l.length c'] w2 (SwapPost F w p m n (size (.app t l)) (sort (swp L k (.app t l))))) := by
    intro w2 g c' n2 u xs D2 hn2 hg2 hu hc hx hp2
    have e2 : swp L k (.app t l) = .app (swp L k t) (swps L k l) := by rw [swp]
    have e3 : l.length = (sorts (swps L k l)).length := by rw [sorts_length, swps_length]
    rw [e2] at z1 z2 z3
    rw [e2, e3]
    exact (app_step2 F (swp L k t) (swps L k l) (k + b) p m n2 g c' D2 u xs w w2 z2 (by omega) (by omega) (by omega) hP.far hP.map.lt hg2 hu hc hx hp2).mono (fun e w' hh => SwapPost.of (by omega) hh)
  generalize sort (swp L k (.app t l)) = r at HFIN ⊢
  generalize hcc : size (.app t l) = cc at HFIN ⊢ hk hn hsz
  have hmw : m + 1 ≤ w.heap.size := hP.map.lt
  have hpw : p + 1 ≤ w.heap.size := hP.blk.lt
  have HB : Hid (F bb) := hb
  have c4' := c4
  have C4 := Lib.hid c4'
  have c5a := cell_alloc c5
  clear z1 z2 z3 hok hin IH hK ht hys hA hP hL hb c0 c1 c2 c3 hcc
  unfold maxLen at hc2
  go_enter Tryz.func92, Tryz.ntmps92
  go_wp2_with fail
  go_loopw [9, 37] (fun sv iv wr => ∃ j xs D' n', iv = .int .i64 (j : Nat) ∧ (∃ g' c', sv = .slice (some ⟨g', 0, none⟩) j c') ∧ Hid (SwapRel F w wr p m n L k l j sv xs D' n')) (fun _ iv _ => l.length - (intOf iv).toNat)
  case atStart =>
    refine ⟨0, [], D, n, rfl, ⟨_, _, rfl⟩, ⟨Nat.zero_le _, own_new w 52 #[] 0 1 w.heap.size (Nat.le_refl _) rfl (by decide), by simp [swps, sorts, RepPsF], ?_, by simp [sizes], ⟨rfl, rfl, rfl, by simp, fun k' hk' _ => Below.heap_alloc w _ k' hk'⟩⟩⟩
    refine HP.out.go (Below.heap_alloc w _ p HP.out.blk.lt) (Below.heap_alloc w _ m HP.out.map.lt) (fun k' _ hk' => Below.heap_alloc w _ k' hk') (fun k' hk' hk2 => ⟨.inl hk', by simp [Value.ownBlock]; omega⟩) ?_
    rintro ⟨h | h, _⟩
    · exact HP.out.far h
    · omega
  case round =>
    obtain ⟨j, xs, D', n', rfl, ⟨g', c', rfl⟩, hrel⟩ := hrel
    have hj := hrel.out.le
    have hgr := hrel.out.grown
    have hgown := own_block_lt hrel.out.own g' rfl
    have hlift : ∀ q, F q → q < w.heap.size → Foot F w (.slice (some ⟨g', 0, none⟩) j c') q := fun q hq hq2 => ⟨.inl hq, by simp [Value.ownBlock]; omega⟩
    have halF : AlikeAt F w wr := fun q hq hq2 => hgr.block q hq2 (by intro e; injection e with e; exact HP.out.far (e ▸ hq))
    have hKr : Hid (Keep wr) := HIN.out.keep w wr HKP.out hgr
    by_cases hlt : j < l.length
    · obtain ⟨g, rfl, hcells, hFg⟩ := HA.out (by omega)
      obtain ⟨u, hu⟩ : ∃ u, l[j]? = some u := ⟨_, List.getElem?_eq_getElem hlt⟩
      obtain ⟨xv, hxv, hrep⟩ := RepPsF.at l ys j u HYS.out hu
      have e1 : wr.cell? ⟨g, j, none⟩ = some xv := halF.cell hFg (hcells j xv hxv)
      have hnj := sizes_le l (j + 1)
      rw [sizes_take l j u hu] at hnj
      have hcnt := hrel.out.cnt
      have hou := (oks_mem (k + a) l).1 HOK2.out u (List.mem_of_getElem? hu)
      have HC := Lib.hid (HIH.out (Foot F w (.slice (some ⟨g', 0, none⟩) j c')) u xv k n' D' wr (by omega) (by omega) hou (by omega) hKr.out (RepPF.move halF hlift _ _ hrep) hrel.out.pool)
      have HX := Lib.hid hu
      have HGR := Lib.hid hgr
      clear hxv hrep hgr halF hu hou hcells hlift hKr
      go_wp2_with (first
        | (go_at_call 92; refine HC.out.mono ?_; rintro e w1 ⟨hg1, uv, D1, n1, rfl, hn1, hu, hp⟩; obtain ⟨ub, _, _, _, rfl, -⟩ := RepPF.head _ _ hu; have HG1 := Lib.hid hg1; have HU := Lib.hid hu; have HPP := Lib.hid hp; have hown1 := hrel.out.own.kept hg1 (.inr (fun e => by have := (own_block_lt hrel.out.own m e).1; have := HP.out.map.lt; omega)); have HOWN := Lib.hid hown1; clear hg1 hu hp hown1)
        | (at_builtin; refine wpList_append_own_at _ rfl _ _ 58 rfl w.heap.size 52 i0 (.pointer none) 1 8 Tryz.underlying58 hi0 hz0 hz1 hz2 rfl (Nat.succ_pos 0) (.slice (some ⟨g', 0, none⟩) j c') j xs rfl (HOWN.out.alloc _) ⟨w1.heap.size, 0, none⟩ 1 1 [.pointer (some ⟨ub, 0, none⟩)] rfl rfl (cell_one_new _ _ _) ?_ ?_ ?_ ?_ ?_))
      · intro u' hu'
        simp at hu'; subst hu'; rfl
      · unfold maxLen; omega
      · omega
      · have := HGR.out.size
        have := HG1.out.size
        simp; omega
      · intro v' w3 hown3 hgrow3 _ hat3
        obtain ⟨A3, c3, rfl⟩ := own_shape hown3
        obtain ⟨g3, rfl, -⟩ := own_cells hown3 (Nat.succ_pos _)
        have hrel3 := hrel.out.next HP.out.blk.lt HP.out.map.lt HP.out.far HX.out hlt HG1.out hn1 HU.out HPP.out hown3 hgrow3 (by
          rcases hat3 with e | e
          · simp [Value.ownBlock] at e; exact .inl e
          · simp [Value.ownBlock] at e; exact .inr (by omega))
        have HREL3 := Lib.hid hrel3
        clear hown3 hgrow3 hat3 hrel3
        go_wp2_with fail
        go_roundw
        case rel => exact ⟨j + 1, _, D1, n1, by go_num, ⟨_, _, rfl⟩, HREL3.out⟩
        case measure => simp [intOf]; omega
    · have hjb : j = l.length := by omega
      subst hjb
      have hrep0 := hrel.out.rep
      have hcnt := hrel.out.cnt
      rw [List.take_of_length_le (Nat.le_refl _)] at hrep0 hcnt
      have c4r : wr.cell? ⟨bb, 4, none⟩ = some pp := halF.cell HB.out C4.out
      have HC := Lib.hid (HIH.out (Foot F w (.slice (some ⟨g', 0, none⟩) l.length c')) t pp k n' D' wr (by omega) (by omega) HOK1.out (by omega) hKr.out (RepPF.move halF hlift _ _ HT.out) hrel.out.pool)
      have HNE : Hid (∀ q, Foot F w (.slice (some ⟨g', 0, none⟩) l.length c') q → q ≠ m) := by
        rintro q ⟨h1 | h1, _⟩ e
        · exact HP.out.far (e ▸ h1)
        · omega
      have HF2 : Hid (∀ (w2 : World) (u : Value) (D2 : DataW Value) (n2 : Nat), wr.grownBy w2 (some m) → n2 ≤ n' + size t → RepPF (fun q => Foot F w (.slice (some ⟨g', 0, none⟩) l.length c') q ∨ wr.heap.size ≤ q) w2 (sort (swp L k t)) u → Pool (fun q => Foot F w (.slice (some ⟨g', 0, none⟩) l.length c') q ∨ wr.heap.size ≤ q) w2 p m n2 D2 →
          Calls Tryz.prog 107 #[.pointer (some ⟨p, 0, none⟩), u, .slice (some ⟨g', 0, none⟩) l.length c'] w2 (SwapPost F w p m n cc r)) := by
        intro w2 u D2 n2 hg2 hn2 hu hp2
        have hs0 := hgr.size
        have hw : ∀ q, (Foot F w (.slice (some ⟨g', 0, none⟩) l.length c') q ∨ wr.heap.size ≤ q) → F q ∨ w.heap.size ≤ q := by
          rintro q (h | h)
          · exact h.1
          · exact .inr (by omega)
        refine HFIN.out w2 g' c' n2 u xs D2 (by omega) (hgr.trans hg2) (RepPF.wider hu hw) ?_ ?_ (hp2.wider hw ?_)
        · intro i x hx
          have hpos : 0 < l.length := by
            have h1 := RepPsF.length _ _ hrep0
            have h2 := (List.getElem?_eq_some_iff.1 hx).1
            rw [sorts_length, swps_length] at h1
            omega
          obtain ⟨g4, e1, _, _, _, _, h5⟩ := own_cells hrel.out.own hpos
          injection e1 with e1
          injection e1 with e1
          subst e1
          have h7 := h5 i x hx
          rw [World.cell?_of_block (a := ⟨g', i, none⟩) (hg2.block g' hgown.2 (by intro e; injection e with e; omega))]
          exact h7
        · exact RepPsF.move (fun q hq hq2 => hg2.block q hq2 (by intro e; injection e with e; exact HNE.out q hq e)) (fun q hq _ => hq.1) _ _ hrep0
        · rintro (h | h)
          · exact HP.out.far h
          · omega
      clear hrep0 hlift halF hKr hgr
      go_wp2_with (first
        | (go_at_call 92; refine HC.out.mono ?_; rintro e w2 ⟨hg2, u2, D2, n2, rfl, hn2, hu2, hp2⟩; have HQ2 := Lib.hid (HF2.out w2 u2 D2 n2 hg2 hn2 hu2 hp2); clear hg2 hu2 hp2)
        | (go_at_call 107; refine HQ2.out.mono ?_; rintro e w3 hq; obtain ⟨b3, rfl⟩ := hq.shape; have HQ := Lib.hid hq; clear hq))
      go_ret
      exact HQ.out

/-- swap at any term. -/
theorem swapSaid (fv : Value) (L : Nat → Term → Term) (a b p m : Nat) (Keep : World → Prop) (hin : SwapIn fv L a p m Keep) (hL : LeafOk L a b) : ∀ N, SwapSaid fv L a p m Keep N
  | 0 => by
    intro F t v k n D w h
    have := size_pos t
    omega
  | N + 1 => by
    intro F t v k n D w hN hk hok hn hK hv hP
    have IH := swapSaid fv L a b p m Keep hin hL N
    cases t with
    | nm s =>
      rw [Rt.size] at hk hn ⊢
      rw [ok] at hok
      have h := hin.nm F s k n v D w hK (by omega) hok (by omega) hv hP
      rw [swp, sort_one _ (hL.nm k s (by omega) hok).1]
      exact h
    | ix i =>
      rw [Rt.size] at hk hn ⊢
      simp only [ok, decide_eq_true_eq] at hok
      have h := hin.ix F i k n v D w hK (by omega) hok.1 hok.2 (by omega) hv hP
      rw [swp, sort_one _ (hL.ix k i (by omega) hok.1 hok.2).1]
      exact h
    | lam t => exact swap_lam fv L a b p m Keep hL N IH F t v k n D w (by rw [Rt.size] at hN; omega) hk hok hn hK hv hP
    | app t l => exact swap_app fv L a b p m Keep hin hL N IH F t l v k n D w (by rw [Rt.size] at hN; omega) hk hok hn hK hv hP

end Go.Proofs.YthlenhnioocbgaaGreatDoor
