/- The walk of the program's swap, at lam and at app. -/
import Derived.Test.YtopmkddmllmecaaGreatDoorEqP
namespace Go.Proofs.YtopmkddmllmecaaGreatDoor
open Go.RowKit Rt Go.Lib
open Go.ChangeMaps Go.MapKept Go.Maps Go.WideMaps

/-- What swap does at terms of size N or less. -/
def SwapSaid (fv : Value) (L : Nat → Term → Term) (a p m : Nat) (Keep : World → Prop) (N : Nat) : Prop :=
  ∀ (F : Nat → Prop) (t : Term) (v : Value) (k n : Nat) (D : DataW Value) (w : World), size t ≤ N → k + size t ≤ 100 → ok (k + a) t = true → sort t = t → n + size t ≤ 900000 → Keep w → RepPF F w t v → Pool F w p m n D →
    Calls Tryz.prog 86 #[.pointer (some ⟨p, 0, none⟩), v, .int .i64 k, fv] w (SwapPost F w p m n (size t) (sort (swp L k t)))

theorem SwapPost.lam {F : Nat → Prop} {w w3 w4 : World} {p m n n' c : Nat} {t : Term} {e : Ending} (hg : w.grownBy w3 (some m)) (hm : ¬ F m) (hmw : m + 1 ≤ w.heap.size) (hn : n' + 1 ≤ n + c) (h : PoolPost (fun k => F k ∨ w.heap.size ≤ k) w3 p m (n' + 1) t e w4) : SwapPost F w p m n c t e w4 :=
  SwapPost.of hn (PoolPost.elder3 hg hm hmw h)

set_option maxHeartbeats 1600000 in
set_option maxRecDepth 100000 in
theorem swap_lam (fv : Value) (L : Nat → Term → Term) (a b p m : Nat) (Keep : World → Prop) (hL : LeafOk L a b) (N : Nat) (IH : SwapSaid fv L a p m Keep N) (F : Nat → Prop) (t : Term) (v : Value) (k n : Nat) (D : DataW Value) (w : World)
    (hN : size t ≤ N) (hk : k + size (.lam t) ≤ 100) (hok : ok (k + a) (.lam t) = true) (hst : sort (.lam t) = .lam t) (hn : n + size (.lam t) ≤ 900000) (hK : Keep w) (hv : RepPF F w (.lam t) v) (hP : Pool F w p m n D) :
    Calls Tryz.prog 86 #[.pointer (some ⟨p, 0, none⟩), v, .int .i64 k, fv] w (SwapPost F w p m n (size (.lam t)) (sort (swp L k (.lam t)))) := by
  obtain ⟨z1, z2⟩ := swp_ok L a b hL (.lam t) k hk hok
  have z3 := text_size _ _ z2
  have z4 := text_sort_len (swp L k (.lam t))
  have hsz : size (.lam t) = 1 + size t := by rw [Rt.size]
  have hkk : size t ≤ 100 := by omega
  have hv0 := hv
  rw [RepPF] at hv
  obtain ⟨bb, pp, rfl, h6, ht, hb⟩ := hv
  obtain ⟨b0, _, _, _, rfl, -, -⟩ := RepPF.head _ _ ht
  obtain ⟨c0, c1, c2, c3, c4, c5, hliv, -⟩ := h6
  have hok' : ok (k + 1 + a) t = true := by rw [ok] at hok; rw [show k + 1 + a = k + a + 1 by omega]; exact hok
  have hC := IH F t (.pointer (some ⟨b0, 0, none⟩)) (k + 1) n D w hN (by omega) hok' (lam_sorted hst) (by omega) hK ht hP
  have e1 : (((k + 1 : Nat)) : Int) = (k : Int) + 1 := by omega
  rw [e1] at hC
  have HC := Lib.hid hC
  have e2 : sort (swp L k (.lam t)) = .lam (sort (swp L (k + 1) t)) := by rw [swp, sort]
  have HL : Hid (∀ (w1 : World) (b1 n1 : Nat) (D1 : DataW Value), w.grownBy w1 (some m) → n1 ≤ n + size t → RepPF (fun q => F q ∨ w.heap.size ≤ q) w1 (sort (swp L (k + 1) t)) (.pointer (some ⟨b1, 0, none⟩)) → Pool (fun q => F q ∨ w.heap.size ≤ q) w1 p m n1 D1 →
      w1.cell? ⟨bb, 5, none⟩ = some (.pointer (some ⟨b0, 0, none⟩)) ∧ Hid (b1 = b0 → SwapPost F w p m n (size (.lam t)) (sort (swp L k (.lam t))) (.returned (.pointer (some ⟨bb, 0, none⟩))) w1) ∧
      Hid (Calls Tryz.prog 85 #[.pointer (some ⟨p, 0, none⟩), .pointer (some ⟨b1, 0, none⟩)] w1 (SwapPost F w p m n (size (.lam t)) (sort (swp L k (.lam t)))))) := by
    intro w1 b1 n1 D1 hg1 hn1 hr1 hp1
    have z5 : size (sort (swp L (k + 1) t)) ≤ 1000000 := by
      have := size_sort (swp L k (.lam t))
      rw [e2, Rt.size] at this
      omega
    rw [e2]
    have z6 : ok (k + b) (.lam (sort (swp L (k + 1) t))) = true := by rw [← e2, ok_sort]; exact z2
    refine ⟨grown_cell hg1 (fun e => hP.far (e ▸ hb)) c4, ?_, ?_⟩
    · rintro rfl
      have hq : sort (swp L (k + 1) t) = t := by
        refine RepPF.same (i := k + b + 1) (j := k + 1 + a) hr1 (RepPF.move (fun q hq hq2 => hg1.block q hq2 (by intro e; injection e with e; exact hP.far (e ▸ hq))) (fun q hq _ => hq) _ _ ht) ?_ hok'
        rw [ok] at z6; exact z6
      rw [hq]
      exact SwapPost.stay hg1 hP.far (by omega) hv0 hp1
    · refine (lam_any _ (sort (swp L (k + 1) t)) (k + b) _ p m n1 D1 w1 z6 ?_ z5 (by omega) hp1 hr1).mono (fun e w' hh => SwapPost.lam hg1 hP.far hP.map.lt (by omega) hh)
      rw [← e2, z4]; omega
  have c0' : w.cell? ⟨bb, 0, none⟩ = some (.int .i64 2) := c0
  have HLB : Hid (∀ w1, w.grownBy w1 (some m) → Live w1 b0) := fun w1 hg1 => RepPF.live (RepPF.move (fun q hq hq2 => hg1.block q hq2 (by intro e; injection e with e; exact hP.far (e ▸ hq))) (fun q hq _ => hq) _ _ ht)
  generalize sort (swp L k (.lam t)) = r at HL ⊢
  generalize size (.lam t) = cc at HL ⊢
  clear z1 z2 z3 z4 hC ht hP hK hL IH hok hok' hst hv0 e1 e2 c0 c1 c2 c3 c5 hsz
  go_enter Tryz.func86, Tryz.ntmps86
  go_wp2_with fail
  refine HC.out.mono ?_
  rintro e w1 ⟨hg1, v1, D1, n1, rfl, hn1, hr1, hp1⟩
  obtain ⟨b1, _, _, _, rfl, -, -⟩ := RepPF.head _ _ hr1
  obtain ⟨c4w, HS, HL1⟩ := HL.out w1 b1 n1 D1 hg1 hn1 hr1 hp1
  have LX : Hid (b1 ≠ b0 → (binOp .eql 74 (.pointer (some ⟨b1, 0, none⟩)) (.pointer (some ⟨b0, 0, none⟩))).run Tryz.prog w1 = .ok (.bool false) w1) := fun h => eql_other h (RepPF.live hr1) (HLB.out w1 hg1)
  clear hg1 hr1 hp1 c4
  by_cases hbb : b1 = b0
  · have HQ := Lib.hid (HS.out hbb)
    subst hbb
    have q1 := eql_same b1 w1
    go_wp2_with fail
    go_ret
    exact HQ.out
  · have q1 := LX.out hbb
    go_wp2_with (go_at_call 85; refine HL1.out.mono ?_; rintro e w2 hq; obtain ⟨b2, rfl⟩ := hq.shape; have HQ := Lib.hid hq; clear hq)
    go_ret
    exact HQ.out

set_option maxHeartbeats 3200000 in
set_option maxRecDepth 100000 in
theorem swap_app (fv : Value) (L : Nat → Term → Term) (a b p m : Nat) (Keep : World → Prop) (hin : SwapIn fv L a p m Keep) (hL : LeafOk L a b) (N : Nat) (IH : SwapSaid fv L a p m Keep N) (F : Nat → Prop) (t : Term) (l : List Term) (v : Value) (k n : Nat) (D : DataW Value) (w : World)
    (hN : size t + sizes l ≤ N) (hk : k + size (.app t l) ≤ 100) (hok : ok (k + a) (.app t l) = true) (hst : sort (.app t l) = .app t l) (hn : n + size (.app t l) ≤ 900000) (hK : Keep w) (hv : RepPF F w (.app t l) v) (hP : Pool F w p m n D) :
    Calls Tryz.prog 86 #[.pointer (some ⟨p, 0, none⟩), v, .int .i64 k, fv] w (SwapPost F w p m n (size (.app t l)) (sort (swp L k (.app t l)))) := by
  obtain ⟨i0, hi0, hz0, hz1, hz2⟩ := info_parts term_info
  obtain ⟨z1, z2⟩ := swp_ok L a b hL (.app t l) k hk hok
  obtain ⟨q1, q2, -, q4⟩ := app_sorted hok hst
  have z3 := text_size _ _ z2
  have hsz : size (.app t l) = 1 + size t + sizes l := by rw [Rt.size]
  rw [hsz] at z1
  have hbl : l.length ≤ 100 := by
    have : ∀ l : List Term, l.length ≤ sizes l := by
      intro l
      induction l with
      | nil => simp
      | cons u l ih => have := size_pos u; simp only [sizes, List.length_cons]; omega
    have := this l
    omega
  have hv0 := hv
  rw [RepPF] at hv
  obtain ⟨bb, pp, q, ys, rfl, h6, ht, hrow, hys, hb⟩ := hv
  obtain ⟨b0, _, _, _, rfl, -, -⟩ := RepPF.head _ _ ht
  obtain ⟨c0, c1, c2, c3, c4, c5, hliv, -⟩ := h6
  obtain ⟨A, c, rfl, hc1, hc2, hA⟩ := hrow
  have c0' : w.cell? ⟨bb, 0, none⟩ = some (.int .i64 3) := c0
  rw [ok, Bool.and_eq_true] at hok
  have HOK1 := Lib.hid hok.1
  have HOK2 := Lib.hid hok.2
  have HQ2 := Lib.hid q2
  have HIN := Lib.hid hin
  have HIH := Lib.hid IH
  have HKP := Lib.hid hK
  have HT := Lib.hid ht
  have HYS := Lib.hid hys
  have HA := Lib.hid hA
  have HP := Lib.hid hP
  have HV0 := Lib.hid hv0
  have e2 : swp L k (.app t l) = .app (swp L k t) (swps L k l) := by rw [swp]
  have hos : ok (k + b) (swp L k t) = true ∧ oks (k + b) (swps L k l) = true := by rw [e2, ok, Bool.and_eq_true] at z2; exact z2
  have HO1 : Hid (ok (k + b) (sort (swp L k t)) = true ∧ oks (k + b) (sorts (swps L k l)) = true) := ⟨by rw [ok_sort]; exact hos.1, by rw [oks_sorts]; exact hos.2⟩
  have HSAME : Hid (sort (swp L k t) = t → sorts (swps L k l) = l → sort (swp L k (.app t l)) = .app t l) := by
    intro a1 a2
    rw [e2, sort, a1, a2, q4]
  have HFIN : Hid (∀ (w2 : World) (g c' n2 : Nat) (u : Value) (xs : List Value) (D2 : DataW Value), n2 ≤ n + size t + sizes l → w.grownBy w2 (some m) → RepPF (fun q => F q ∨ w.heap.size ≤ q) w2 (sort (swp L k t)) u → Cells w2 g xs → RepPsF (fun q => F q ∨ w.heap.size ≤ q) w2 (sorts (swps L k l)) xs → Pool (fun q => F q ∨ w.heap.size ≤ q) w2 p m n2 D2 →
      Calls Tryz.prog 106 #[.pointer (some ⟨p, 0, none⟩), u, .slice (some ⟨g, 0, none⟩) l.length c'] w2 (SwapPost F w p m n (size (.app t l)) (sort (swp L k (.app t l))))) := by
    intro w2 g c' n2 u xs D2 hn2 hg2 hu hc hx hp2
    have e3 : l.length = (sorts (swps L k l)).length := by rw [sorts_length, swps_length]
    rw [e2] at z1 z2 z3
    rw [e2, e3]
    exact (app_step2 F (swp L k t) (swps L k l) (k + b) p m n2 g c' D2 u xs w w2 z2 (by omega) (by omega) (by omega) hP.far hP.map.lt hg2 hu hc hx hp2).mono (fun e w' hh => SwapPost.of (by omega) hh)
  have HC1 := Lib.hid (IH F t (.pointer (some ⟨b0, 0, none⟩)) k n D w (by omega) (by omega) hok.1 q1 (by omega) hK ht hP)
  generalize sort (swp L k (.app t l)) = r at HFIN HSAME ⊢
  generalize hcc : size (.app t l) = cc at HFIN ⊢ hk hn hsz
  have hmw : m + 1 ≤ w.heap.size := hP.map.lt
  have hpw : p + 1 ≤ w.heap.size := hP.plt
  have HB : Hid (F bb) := hb
  have C4 := Lib.hid c4
  have C5 := Lib.hid c5
  clear z1 z2 z3 hok hin IH hK ht hys hA hP hL hb c0 c1 c2 c3 c5 hcc q1 q2 q4 e2 hos hst hv0
  unfold maxLen at hc2
  go_enter Tryz.func86, Tryz.ntmps86
  go_wp2_with fail
  refine HC1.out.mono ?_
  rintro e w1 ⟨hg1, v1, D1, n1, rfl, hn1, hr1, hp1⟩
  obtain ⟨b1, _, _, _, rfl, -, -⟩ := RepPF.head _ _ hr1
  have hal1 : AlikeAt F w w1 := fun q hq hq2 => hg1.block q hq2 (by intro e; injection e with e; exact HP.out.far (e ▸ hq))
  have HAL1 := Lib.hid hal1
  have hs1 := hg1.size
  have HFM : Hid (¬ (F m ∨ w.heap.size ≤ m)) := by
    rintro (h | h)
    · exact HP.out.far h
    · omega
  have c5w : w1.cell? ⟨bb, 6, none⟩ = some (.slice A l.length c) := hal1.cell HB.out C5.out
  have C4W : Hid (w1.cell? ⟨bb, 5, none⟩ = some (.pointer (some ⟨b0, 0, none⟩))) := hal1.cell HB.out C4.out
  have C5W := Lib.hid c5w
  have HG1 := Lib.hid hg1
  have HR1 := Lib.hid hr1
  have HP1 := Lib.hid hp1
  have hw1m : m + 1 ≤ w1.heap.size := by omega
  have c5a := cell_alloc c5w
  clear hr1 hp1 hg1 hal1 c4
  go_wp2_with fail
  go_loopw [11, 55] (fun sv iv wr => ∃ j xs D' n', iv = .int .i64 (j : Nat) ∧ (∃ g' c', sv = .slice (some ⟨g', 0, none⟩) j c') ∧ Hid (SwapRel (fun q => F q ∨ w.heap.size ≤ q) w1 wr p m n1 L k l j sv xs D' n')) (fun _ iv _ => l.length - (intOf iv).toNat)
  case atStart =>
    refine ⟨0, [], D1, n1, rfl, ⟨_, _, rfl⟩, ⟨Nat.zero_le _, own_new w1 74 #[] 0 1 w1.heap.size (Nat.le_refl _) rfl (by decide), by simp [swps, sorts, RepPsF], ?_, by simp [sizes], ⟨rfl, rfl, rfl, by simp, fun k' hk' _ => Below.heap_alloc w1 _ k' hk'⟩⟩⟩
    refine HP1.out.go (Below.heap_alloc w1 _ p HP1.out.plt) (Below.heap_alloc w1 _ m HP1.out.map.lt) (fun k' _ hk' => Below.heap_alloc w1 _ k' hk') (fun k' hk' hk2 => ⟨.inl hk', by simp [Value.ownBlock]; omega⟩) ?_
    rintro ⟨h | h, _⟩
    · exact HFM.out h
    · omega
  case round =>
    obtain ⟨j, xs, D', n', rfl, ⟨g', c', rfl⟩, hrel⟩ := hrel
    have hj := hrel.out.le
    have hgr := hrel.out.grown
    have hgown := own_block_lt hrel.out.own g' rfl
    have hlift : ∀ q, F q → q < w.heap.size → Foot (fun q => F q ∨ w.heap.size ≤ q) w1 (.slice (some ⟨g', 0, none⟩) j c') q := fun q hq hq2 => ⟨.inl (.inl hq), by simp [Value.ownBlock]; omega⟩
    have halF : AlikeAt F w wr := fun q hq hq2 => (hgr.block q (by omega) (by intro e; injection e with e; exact HP.out.far (e ▸ hq))).trans (HAL1.out q hq hq2)
    have hKr : Hid (Keep wr) := HIN.out.keep w1 wr (HIN.out.keep w w1 HKP.out HG1.out) hgr
    by_cases hlt : j < l.length
    · obtain ⟨g, rfl, hcells, hFg⟩ := HA.out (by omega)
      obtain ⟨u, hu⟩ : ∃ u, l[j]? = some u := ⟨_, List.getElem?_eq_getElem hlt⟩
      obtain ⟨xv, hxv, hrep⟩ := RepPsF.at l ys j u HYS.out hu
      have e1 : wr.cell? ⟨g, j, none⟩ = some xv := halF.cell hFg (hcells j xv hxv)
      have hnj := sizes_le l (j + 1)
      rw [sizes_take l j u hu] at hnj
      have hcnt := hrel.out.cnt
      have hou := (oks_mem (k + a) l).1 HOK2.out u (List.mem_of_getElem? hu)
      have hsu := HQ2.out u (List.mem_of_getElem? hu)
      have HC := Lib.hid (HIH.out (Foot (fun q => F q ∨ w.heap.size ≤ q) w1 (.slice (some ⟨g', 0, none⟩) j c')) u xv k n' D' wr (by omega) (by omega) hou hsu (by omega) hKr.out (RepPF.move halF hlift _ _ hrep) hrel.out.pool)
      have HX := Lib.hid hu
      have HGR := Lib.hid hgr
      clear hxv hrep hgr halF hu hou hsu hcells hlift hKr
      go_wp2_with (first
        | (go_at_call 86; refine HC.out.mono ?_; rintro e w2 ⟨hg2, uv, D2, n2, rfl, hn2, hu, hp⟩; obtain ⟨ub, _, _, _, rfl, -⟩ := RepPF.head _ _ hu; have HG2 := Lib.hid hg2; have HU := Lib.hid hu; have HPP := Lib.hid hp; have hown1 := hrel.out.own.kept hg2 (.inr (fun e => by have := (own_block_lt hrel.out.own m e).1; have := HP.out.map.lt; omega)); have HOWN := Lib.hid hown1; clear hg2 hu hp hown1)
        | (at_builtin; refine wpList_append_own_at _ rfl _ _ 75 rfl w1.heap.size 74 i0 (.pointer none) 1 8 Tryz.underlying75 hi0 hz0 hz1 hz2 rfl (Nat.succ_pos 0) (.slice (some ⟨g', 0, none⟩) j c') j xs rfl (HOWN.out.alloc _) ⟨w2.heap.size, 0, none⟩ 1 1 [.pointer (some ⟨ub, 0, none⟩)] rfl rfl (cell_one_new _ _ _) ?_ ?_ ?_ ?_ ?_))
      · intro u' hu'
        simp at hu'; subst hu'; rfl
      · unfold maxLen; omega
      · omega
      · have := HGR.out.size
        have := HG2.out.size
        simp; omega
      · intro v' w3 hown3 hgrow3 _ hat3
        obtain ⟨A3, c3, rfl⟩ := own_shape hown3
        obtain ⟨g3, rfl, -⟩ := own_cells hown3 (Nat.succ_pos _)
        have hrel3 := hrel.out.next HP1.out.plt HP1.out.map.lt HFM.out HX.out hlt HG2.out hn2 HU.out HPP.out hown3 hgrow3 (by
          rcases hat3 with e | e
          · simp [Value.ownBlock] at e; exact .inl e
          · simp [Value.ownBlock] at e; exact .inr (by omega))
        have HREL3 := Lib.hid hrel3
        clear hown3 hgrow3 hat3 hrel3
        go_wp2_with fail
        go_roundw
        case rel => exact ⟨j + 1, _, D2, n2, by go_num, ⟨_, _, rfl⟩, HREL3.out⟩
        case measure => simp [intOf]; omega
    · have hjb : j = l.length := by omega
      subst hjb
      have hrep0 := hrel.out.rep
      have hcnt := hrel.out.cnt
      have hrp := hrel.out.pool
      have hrow0 := hrel.out.own
      rw [List.take_of_length_le (Nat.le_refl _)] at hrep0 hcnt
      have c4r : wr.cell? ⟨bb, 5, none⟩ = some (.pointer (some ⟨b0, 0, none⟩)) := halF.cell HB.out C4.out
      have c5r : wr.cell? ⟨bb, 6, none⟩ = some (.slice A l.length c) := halF.cell HB.out C5.out
      have hs0 := hgr.size
      have hG : w.grownBy wr (some m) := HG1.out.trans hgr
      have hw : ∀ q, Foot (fun q => F q ∨ w.heap.size ≤ q) w1 (.slice (some ⟨g', 0, none⟩) l.length c') q → F q ∨ w.heap.size ≤ q := by
        rintro q ⟨h | h, -⟩
        · exact h
        · exact .inr (by omega)
      have hal2 : AlikeAt (fun q => F q ∨ w.heap.size ≤ q) w1 wr := fun q hq hq2 => hgr.block q hq2 (by intro e; injection e with e; exact HFM.out (e ▸ hq))
      have hu2 : RepPF (fun q => F q ∨ w.heap.size ≤ q) wr (sort (swp L k t)) (.pointer (some ⟨b1, 0, none⟩)) := RepPF.move hal2 (fun q hq _ => hq) _ _ HR1.out
      have hx2 : RepPsF (fun q => F q ∨ w.heap.size ≤ q) wr (sorts (swps L k l)) xs := RepPsF.move (fun _ _ _ => rfl) (fun q hq _ => hw q hq) _ _ hrep0
      have hp2 : Pool (fun q => F q ∨ w.heap.size ≤ q) wr p m n' D' := hrp.wider hw HFM.out
      have hxl : xs.length = l.length := by have := RepPsF.length _ _ hrep0; rw [sorts_length, swps_length] at this; exact this
      have hcx : Cells wr g' xs := by
        intro i x hx
        have hpos : 0 < l.length := by have h2 := (List.getElem?_eq_some_iff.1 hx).1; omega
        obtain ⟨g4, e1, _, _, _, _, h5⟩ := own_cells hrow0 hpos
        injection e1 with e1
        injection e1 with e1
        subst e1
        exact h5 i x hx
      have hyl := RepPsF.length _ _ HYS.out
      have HX1 : Hid (Ptrs wr (some ⟨g', 0, none⟩) l.length xs) := ptrs_of hxl hx2 (fun i x hx => ⟨g', rfl, hcx i x hx⟩)
      have HY1 : Hid (Ptrs wr A l.length ys) := ptrs_of (by omega) (RepPsF.move halF (fun q hq _ => hq) _ _ HYS.out) (fun i x hx => by
        have h2 := (List.getElem?_eq_some_iff.1 hx).1
        obtain ⟨g, rfl, hcells, hFg⟩ := HA.out (by omega)
        exact ⟨g, rfl, halF.cell hFg (hcells i x hx)⟩)
      have HEND : Hid (∀ W, Below wr.heap.size wr W → Calls Tryz.prog 106 #[.pointer (some ⟨p, 0, none⟩), .pointer (some ⟨b1, 0, none⟩), .slice (some ⟨g', 0, none⟩) l.length c'] W (SwapPost F w p m n cc r)) := by
        intro W hbW
        have hbb : AlikeAt (fun q => F q ∨ w.heap.size ≤ q) wr W := fun q _ hq => hbW.block q hq
        exact HFIN.out W g' c' n' (.pointer (some ⟨b1, 0, none⟩)) xs D' (by omega) (hG.trans (below_grown hbW _)) (RepPF.move hbb (fun q hq _ => hq) _ _ hu2) (hcx.keep (below_keeps hbW)) (RepPsF.move hbb (fun q hq _ => hq) _ _ hx2) (hp2.below hbW)
      have HSTAY : Hid (∀ W, Below wr.heap.size wr W → b1 = b0 → xs = ys → SwapPost F w p m n cc r (.returned (.pointer (some ⟨bb, 0, none⟩))) W) := by
        intro W hbW hb1 hxy
        subst hb1
        subst hxy
        have y1 : sort (swp L k t) = t := RepPF.same hu2 (RepPF.move halF (fun q hq _ => hq) _ _ HT.out) HO1.out.1 HOK1.out
        have y2 : sorts (swps L k l) = l := RepPsF.same _ _ _ hx2 (RepPsF.move halF (fun q hq _ => hq) _ _ HYS.out) HO1.out.2 HOK2.out
        rw [HSAME.out y1 y2]
        exact SwapPost.stay (hG.trans (below_grown hbW _)) HP.out.far (by omega) HV0.out (hp2.below hbW)
      have LX : Hid (b1 ≠ b0 → (binOp .eql 74 (.pointer (some ⟨b1, 0, none⟩)) (.pointer (some ⟨b0, 0, none⟩))).run Tryz.prog wr = .ok (.bool false) wr) := fun h => eql_other h (RepPF.live hu2) (RepPF.live (RepPF.move halF (fun q hq _ => hq) _ _ HT.out))
      clear hrep0 hlift halF hKr hgr hG hw hal2 hu2 hx2 hp2 hcx hrp hrow0 hxl hyl hcnt hrel
      have HEQ := Lib.hid (equal_any (some ⟨g', 0, none⟩) A l.length l.length c' c xs ys wr (by unfold maxLen; omega) HX1.out HY1.out)
      by_cases hb1 : b1 = b0
      · have HST2 : Hid (∀ W, Below wr.heap.size wr W → xs = ys → SwapPost F w p m n cc r (.returned (.pointer (some ⟨bb, 0, none⟩))) W) := fun W h e => HSTAY.out W h hb1 e
        subst hb1
        have q1 := eql_same b1 wr
        clear HSTAY
        go_wp2_with (go_at_call 105; refine HEQ.out.mono ?_; rintro e wq ⟨hbq, rr, rfl, hrr⟩; have HBQ := Lib.hid hbq; have HRR := Lib.hid hrr; clear hbq hrr; cases rr)
        · go_wp2_with (go_at_call 106; refine (HEND.out _ HBQ.out).mono ?_; rintro e w3 hq; obtain ⟨b3, rfl⟩ := hq.shape; have HQ := Lib.hid hq; clear hq)
          go_ret
          exact HQ.out
        · go_wp2_with fail
          go_ret
          exact HST2.out _ HBQ.out (HRR.out (by simp))
      · have q1 := LX.out hb1
        clear HSTAY
        go_wp2_with (go_at_call 106; refine (HEND.out _ (Below.refl _ _)).mono ?_; rintro e w3 hq; obtain ⟨b3, rfl⟩ := hq.shape; have HQ := Lib.hid hq; clear hq)
        go_ret
        exact HQ.out

/-- swap at any term. -/
theorem swapSaid (fv : Value) (L : Nat → Term → Term) (a b p m : Nat) (Keep : World → Prop) (hin : SwapIn fv L a p m Keep) (hL : LeafOk L a b) : ∀ N, SwapSaid fv L a p m Keep N
  | 0 => by
    intro F t v k n D w h
    have := size_pos t
    omega
  | N + 1 => by
    intro F t v k n D w hN hk hok hst hn hK hv hP
    have IH := swapSaid fv L a b p m Keep hin hL N
    cases t with
    | nm s =>
      rw [Rt.size] at hk hn ⊢
      rw [ok] at hok
      have h := hin.nm F s k n v D w hK (by omega) hok (by omega) hv hP
      rw [swp, sort_one _ (hL.nm k s (by omega) hok).1]
      exact h
    | ix i =>
      rw [Rt.size] at hk hn ⊢
      simp only [ok, decide_eq_true_eq] at hok
      have h := hin.ix F i k n v D w hK (by omega) hok.1 hok.2 (by omega) hv hP
      rw [swp, sort_one _ (hL.ix k i (by omega) hok.1 hok.2).1]
      exact h
    | lam t => exact swap_lam fv L a b p m Keep hL N IH F t v k n D w (by rw [Rt.size] at hN; omega) hk hok hst hn hK hv hP
    | app t l => exact swap_app fv L a b p m Keep hin hL N IH F t l v k n D w (by rw [Rt.size] at hN; omega) hk hok hst hn hK hv hP

end Go.Proofs.YtopmkddmllmecaaGreatDoor
