/- The walk of bagText. The walk of app. The walk of sortedBag, at no term too. The walk of newTermPool. -/
import Derived.Test.YtopmkddmllmecaaGreatDoorImpL
import Derived.Lib.MinMax
import Derived.Deep.RegionWith
import Derived.Shelf.SlSortCmp.NoneTotal
import Derived.Test.YtopmkddmllmecaaGreatDoorImpE
import Derived.Carry
/-! The walk of bagText. -/
namespace Go.Proofs.YtopmkddmllmecaaGreatDoor
open Go.RowKit Rt Go.Lib

/-- The text of a bag. -/
def bagT (l : List Term) : B := textT (.list (.atom sM :: ofTerms l))

theorem textL_tail : ∀ (x : Tree) (l : List Term), textL (x :: ofTerms l) = textT x ++ Lib.joinTail [32] (l.map text)
  | x, [] => by simp [ofTerms, textL, Lib.joinTail]
  | x, t :: l => by
    rw [ofTerms, textL, textL_tail (ofTerm t) l]
    simp [Lib.joinTail, text]

theorem bagT_join (l : List Term) : bagT l = 40 :: (Lib.join (sM :: l.map text) [32] ++ [41]) := by
  rw [bagT, textT, textL_tail, Lib.join_cons, textT]

theorem tx_len (l : List Term) : (tx l).length = l.length * 1 := by simp [tx]
theorem tx_one (l : List Term) : ∀ u ∈ tx l, u.oneCell' = true := by
  intro u hu
  obtain ⟨t, _, rfl⟩ := List.mem_map.1 hu
  rfl

theorem own_two (w w2 : World) (h : Below (w.heap.size + 1) (w.alloc (.cells #[.string ⟨#[109]⟩] 9)) w2) : w2.ownsRow w.heap.size 9 1 (.slice (some ⟨w.heap.size, 0, none⟩) 1 1) 1 [.string ⟨#[109]⟩] := by
  refine ⟨rfl, .inr ⟨w.heap.size, 1, #[.string ⟨#[109]⟩], rfl, Nat.le_refl _, ?_, Nat.le_refl _, by decide, rfl, rfl⟩⟩
  exact (h.block w.heap.size (Nat.lt_succ_self _)).trans (Blk.new w 9 _)

set_option maxHeartbeats 800000 in
set_option maxRecDepth 100000 in
theorem bagText_any (F : Nat → Prop) (l : List Term) (v : Value) (xs : List Value) (w : World) (hl : l.length ≤ 100000) (hlen : (bagT l).length ≤ 1000000) (hv : RowF F w v l.length xs) (hx : RepPsF F w l xs) :
    Calls Tryz.prog 122 #[v] w fun e w' => e = .returned (st (bagT l)) ∧ Below w.heap.size w w' := by
  obtain ⟨i0, hi0, hz0, hz1, hz2⟩ := info_parts text_info
  have hal0 : AlikeAt F w (w.alloc (.cells #[.string ⟨#[109]⟩] 9)) := below_alike (below_one w _)
  have hB : Hid (Calls Tryz.prog 139 #[v] (w.alloc (.cells #[.string ⟨#[109]⟩] 9)) (TextsPost (w.alloc (.cells #[.string ⟨#[109]⟩] 9)) l)) := by
    refine bagTexts_any F l v xs _ hl ?_ (RepPsF.move hal0 (fun _ h _ => h) _ _ hx)
    obtain ⟨A, c, e1, e2, e3, e4⟩ := hv
    refine ⟨A, c, e1, e2, e3, fun hn => ?_⟩
    obtain ⟨g, e5, e6, e7⟩ := e4 hn
    exact ⟨g, e5, hal0.cells e7 e6, e7⟩
  have HT : Hid (bagT l = 40 :: (Lib.join (sM :: l.map text) [32] ++ [41])) := bagT_join l
  have hj : (Lib.join (sM :: l.map text) [32]).length ≤ 1000000 := by have := HT.out; rw [this] at hlen; simp at hlen; omega
  clear hv hx hal0
  go_enter Tryz.func122, Tryz.ntmps122
  go_wp2_with (first | (go_at_call 139; refine hB.out.mono ?_; rintro e w2 ⟨q1, g, c, rfl, q2⟩; have Q1 := Lib.hid q1; have Q2 := Lib.hid q2; clear q1 q2; have hown2 := own_two w w2 (by simpa using Q1.out)) | (at_builtin; refine wpList_append_own_at _ rfl _ _ 22 rfl w.heap.size 9 i0 (.string ⟨#[]⟩) 1 16 Tryz.underlying22 hi0 hz0 hz1 hz2 rfl (Nat.succ_pos 0) (.slice (some ⟨w.heap.size, 0, none⟩) 1 1) 1 [.string ⟨#[109]⟩] rfl hown2 ⟨g, 0, none⟩ l.length c (tx l) rfl (tx_len l) ?_ (tx_one l) ?_ ?_ ?_ ?_))
  · intro j u hu
    obtain ⟨-, h2⟩ := Q2.out
    have hpos : 0 < l.length := by
      cases l with
      | nil => simp [tx] at hu
      | cons t l => simp
    obtain ⟨g', e1, _, _, _, _, h5⟩ := own_cells Q2.out hpos
    injection e1 with e1
    injection e1 with e1
    subst e1
    have := h5 j u hu
    rw [Addr.add_lit, Nat.zero_add]
    exact this
  · unfold maxLen; omega
  · omega
  · have := Q1.out.size
    simp at this
    simp; omega
  · intro v' w3 hown3 hgrow3 _ hat3
    obtain ⟨A3, c3, rfl⟩ := own_shape hown3
    obtain ⟨g3, rfl, p1, p2, p3, p4, p5⟩ := own_cells hown3 (by omega)
    have hb3 : Below w.heap.size w w3 := by
      refine ((below_one w _).trans (Q1.out.mono (by simp))).grown hgrow3 ?_ (fun k hk => ?_)
      · have := Q1.out.size; simp at this; omega
      · simp [Value.ownBlock] at hk; omega
    have hjn : ((⟨#[109]⟩ : ByteArray) :: l.map (fun t => (⟨(text t).toArray⟩ : ByteArray))).map (·.data.toList) = sM :: l.map text := by
      simp [sM, Function.comp_def]
    have hnl : ((⟨#[109]⟩ : ByteArray) :: l.map (fun t => (⟨(text t).toArray⟩ : ByteArray))).length = 1 + l.length := by simp; omega
    have hjoin := Tryz.strings_Join g3 0 c3 ((⟨#[109]⟩ : ByteArray) :: l.map (fun t => (⟨(text t).toArray⟩ : ByteArray))) ⟨#[32]⟩ w3 (by
      intro j x hx
      rw [Nat.zero_add]
      refine p5 j _ ?_
      have : (Value.string ⟨#[109]⟩ :: tx l) = (((⟨#[109]⟩ : ByteArray) :: l.map (fun t => (⟨(text t).toArray⟩ : ByteArray))).map Value.string) := by simp [tx]
      show (Value.string ⟨#[109]⟩ :: tx l)[j]? = _
      rw [this, List.getElem?_map, hx]
      rfl) p2 (by rw [hnl]; omega) (by rw [hnl]; exact p3) (by rw [hjn]; show (Lib.join (sM :: l.map text) [32]).length ≤ _; omega)
    rw [hjn, hnl] at hjoin
    change Calls _ _ _ _ (fun e w' => e = .returned (.string ⟨(Lib.join (sM :: l.map text) [32]).toArray⟩) ∧ Below w3.heap.size w3 w') at hjoin
    generalize hJ : Lib.join (sM :: l.map text) [32] = J at *
    have HJ := Lib.hid hjoin
    have HB3 := Lib.hid hb3
    have hJs : (⟨J.toArray⟩ : ByteArray).size = J.length := by simp [ByteArray.size]
    clear hown3 hgrow3 hat3 hjoin hb3 hjn hnl p5
    go_wp2_with (go_at_call 138; refine HJ.out.mono ?_; rintro e w4 ⟨rfl, hb4⟩; have HB4 := Lib.hid hb4; clear hb4)
    go_ret
    refine ⟨?_, HB3.out.trans (HB4.out.mono HB3.out.size)⟩
    rw [HT.out, st_eq]
    congr 2

end Go.Proofs.YtopmkddmllmecaaGreatDoor

/-! The walk of app. -/
namespace Go.Proofs.YtopmkddmllmecaaGreatDoor
open Go.RowKit Rt Go.Lib

theorem text_app (t : Term) (l : List Term) : text (.app t l) = [40, 97, 112, 112, 32] ++ text t ++ [32] ++ bagT l ++ [41] := by
  simp [text, ofTerm, textT, textL, sApp, bagT]

theorem RepPsF.wider {F G : Nat → Prop} {w : World} {l : List Term} {xs : List Value} (h : RepPsF F w l xs) (hG : ∀ k, F k → G k) : RepPsF G w l xs :=
  RepPsF.move (fun _ _ _ => rfl) (fun k hk _ => hG k hk) l xs h

/-- From a wider footprint of an elder world. -/
theorem PoolPost.elder2 {F : Nat → Prop} {w w3 w4 : World} {p m n : Nat} {t : Term} {e : Ending} (hg : Grew w w3) (hm : ¬ F m) (hmw : m + 1 ≤ w.heap.size) (h : PoolPost (fun k => F k ∨ w.heap.size ≤ k) w3 p m n t e w4) : PoolPost F w p m n t e w4 := by
  obtain ⟨hg2, v, D, he, h1, h2⟩ := h
  have hs := hg.size
  refine ⟨(hg.grown (some m)).trans hg2, v, D, he, RepPF.wider h1 ?_, Pool.wider h2 ?_ ?_⟩
  · rintro k ((hk | hk) | hk)
    · exact .inl hk
    · exact .inr hk
    · exact .inr (by omega)
  · rintro k ((hk | hk) | hk)
    · exact .inl hk
    · exact .inr hk
    · exact .inr (by omega)
  · rintro (hk | hk)
    · exact hm hk
    · omega

theorem Pool.lift {F : Nat → Prop} {w w' : World} {p m n : Nat} {D : DataW Value} (h : Pool F w p m n D) (hg : Grew w w') : Pool (fun k => F k ∨ w.heap.size ≤ k) w' p m n D :=
  (h.grew hg).wider (fun _ h => .inl h) (by
    rintro (hk | hk)
    · exact h.far hk
    · have := h.map.lt; omega)

set_option maxHeartbeats 3200000 in
set_option maxRecDepth 100000 in
theorem app_any (F : Nat → Prop) (t : Term) (l : List Term) (j : Nat) (v bag : Value) (p m n : Nat) (D : DataW Value) (w : World) (hok : ok j (.app t (sortBag l)) = true) (hlen : (text (.app t (sortBag l))).length ≤ 1000000) (hl : l.length ≤ 100000)
    (hsz : size (.app t (sortBag l)) ≤ 1000000) (hn : n < 1000000) (hF : ∀ k, F k → k < w.heap.size)
    (hP : Pool F w p m n D) (hv : RepPF F w t v) (hS : Calls Tryz.prog 121 #[bag] w (BagPost F w l)) :
    Calls Tryz.prog 106 #[.pointer (some ⟨p, 0, none⟩), v, bag] w (PoolPost F w p m (n + 1) (.app t (sortBag l))) := by
  obtain ⟨b, i, pp, ll, rfl, h6, hb⟩ := RepPF.head t v hv
  have HS := Lib.hid hS
  have HV := Lib.hid hv
  have HP := Lib.hid hP
  have HF := Lib.hid hF
  have H6 := Lib.hid h6
  have HT : Hid (text (.app t (sortBag l)) = [40, 97, 112, 112, 32] ++ text t ++ [32] ++ bagT (sortBag l) ++ [41]) := text_app _ _
  have hsl : (sortBag l).length = l.length := (sortBag_perm l).length_eq
  have HL := Lib.hid hsl
  have hs1 : size t + sizes (sortBag l) + 1 ≤ 1000000 := by rw [size] at hsz; omega
  have ht1 : (text t).length + (bagT (sortBag l)).length + 7 ≤ 1000000 := by have := HT.out; rw [this] at hlen; simp at hlen; omega
  have HO := Lib.hid hok
  have HLE := Lib.hid hlen
  clear hS hv hP hF h6 hsl hok hlen hsz
  go_enter Tryz.func106, Tryz.ntmps106
  go_wp2_with (go_at_call 121; refine HS.out.mono ?_; rintro e w1 ⟨q1, g, c, xs, rfl, q2, q3, q4, q5, q6, q7⟩; have Q1 := Lib.hid q1; have Q6 := Lib.hid q6; have Q7 := Lib.hid q7; have d1 := (below_keeps q1) _ _ H6.out.2.1; have d2 := (below_keeps q1) _ _ H6.out.2.2.1; have d3 := (below_keeps q1) _ _ H6.out.2.2.2.2.2.2.2; rw [st_eq] at d1; clear q1 q6 q7)
  go_region
  go_wp2_with fail
  go_loop [8, 9, 26] (fun sz ov iv => ∃ k : Nat, k ≤ l.length ∧ iv = .int .i64 k ∧ sz = .int .i64 (1 + size t + sizes ((sortBag l).take k)) ∧ ov = .int .i64 ((max (outer t) (outers ((sortBag l).take k)) : Nat) : Int)) (fun _ _ iv => l.length - (intOf iv).toNat)
  case atStart => exact ⟨0, Nat.zero_le _, rfl, by simp [sizes], by simp [outers]⟩
  case round =>
    obtain ⟨k, hk, rfl, rfl, rfl⟩ := hrel
    by_cases hlt : k < l.length
    · obtain ⟨u, hu⟩ : ∃ u, (sortBag l)[k]? = some u := ⟨_, List.getElem?_eq_getElem (by rw [HL.out]; exact hlt)⟩
      obtain ⟨x, hxk, hrep⟩ := RepPsF.at _ xs k u Q7.out hu
      obtain ⟨b', i', pp', ll', rfl, h6', hb'⟩ := RepPF.head u x hrep
      have e0 : w1.cell? ⟨g, k, none⟩ = some (.pointer (some ⟨b', 0, none⟩)) := Q6.out k _ hxk
      have e1 : w1.cell? ⟨b', 2, none⟩ = some (.int .i64 (size u)) := h6'.2.2.1
      have e2 : w1.cell? ⟨b', 4, none⟩ = some (.int .i64 (outer u)) := h6'.2.2.2.2.2.2.2
      have hou := outers_take _ k u hu
      have hst := sizes_take _ k u hu
      have hle := sizes_le (sortBag l) (k + 1)
      have hle2 := sizes_le (sortBag l) k
      have HST := Lib.hid hst
      have HOU := Lib.hid hou
      generalize outers ((sortBag l).take k) = ok1 at *
      clear hou hxk hrep h6' hu
      go_wp2_with fail
      go_round
      case rel => exact ⟨k + 1, by omega, by go_num, by rw [HST.out]; go_num, by rw [HOU.out]; push_cast; congr 1; omega⟩
      case measure => simp [intOf]; omega
    · have hkl : (sortBag l).take k = sortBag l := List.take_of_length_le (by rw [HL.out]; omega)
      rw [hkl]
      clear hkl
      have hrow : ∀ W : World, AlikeAt (fun k => F k ∨ w.heap.size ≤ k) w1 W → RowF (fun k => F k ∨ w.heap.size ≤ k) W (.slice (some ⟨g, 0, none⟩) l.length c) (sortBag l).length xs := by
        intro W hal
        refine ⟨_, c, by rw [HL.out], by rw [HL.out]; exact q4, q5, fun _ => ⟨g, rfl, hal.cells (.inr q2) Q6.out, .inr q2⟩⟩
      have hreps : ∀ W : World, AlikeAt (fun k => F k ∨ w.heap.size ≤ k) w1 W → RepPsF (fun k => F k ∨ w.heap.size ≤ k) W (sortBag l) xs := fun W hal => RepPsF.move (F := F) (fun k hk hk2 => hal k (.inl hk) hk2) (fun k hk _ => .inl hk) _ _ Q7.out
      have HBT : Hid (Calls Tryz.prog 122 #[.slice (some ⟨g, 0, none⟩) l.length c] (w1.drewN 2) fun e w' => e = .returned (.string ⟨(bagT (sortBag l)).toArray⟩) ∧ Below w1.heap.size w1 w') := by
        refine (bagText_any (fun k => F k ∨ w.heap.size ≤ k) (sortBag l) _ xs (w1.drewN 2) (by rw [HL.out]; exact hl) (by omega) (hrow _ (fun _ _ _ => rfl)) (hreps _ (fun _ _ _ => rfl))).mono ?_

        rintro e w' ⟨rfl, hb⟩
        exact ⟨rfl, ⟨hb.1, hb.2, hb.3, hb.4, hb.5⟩⟩
      have HI : Hid (∀ w4 : World, Below w1.heap.size w1 w4 → Calls Tryz.prog 104 #[.pointer (some ⟨p, 0, none⟩), .agg #[.int .i64 3, .string (⟨#[40, 97, 112, 112, 32]⟩ ++ ⟨(text t).toArray⟩ ++ ⟨#[32]⟩ ++ ⟨(bagT (sortBag l)).toArray⟩ ++ ⟨#[41]⟩), .int .i64 (1 + size t + sizes (sortBag l)), .int .i64 0, .int .i64 ((max (outer t) (outers (sortBag l)) : Nat) : Int), .pointer (some ⟨b, 0, none⟩), .slice (some ⟨g, 0, none⟩) l.length c]] w4 (PoolPost F w p m (n + 1) (.app t (sortBag l)))) := by
        intro w4 hb4
        have hgr : Grew w w4 := Q1.out.trans (hb4.mono Q1.out.size)
        have hal4 : AlikeAt (fun k => F k ∨ w.heap.size ≤ k) w1 w4 := fun k _ hk => hb4.block k hk
        have h := intern_any (fun k => F k ∨ w.heap.size ≤ k) (.app t (sortBag l)) j p m n D 0 (.pointer (some ⟨b, 0, none⟩)) (.slice (some ⟨g, 0, none⟩) l.length c) w4 HO.out HLE.out hn rfl rfl (HP.out.lift hgr) (by
          intro G W b' h6 hb' hG hal
          have hal1 : AlikeAt (fun k => F k ∨ w.heap.size ≤ k) w1 W := fun k hk hk2 => (hal k hk (Nat.lt_of_lt_of_le hk2 hb4.size)).trans (hal4 k hk hk2)
          have hGG : ∀ k, (F k ∨ w.heap.size ≤ k) → k < w1.heap.size → G k := fun k hk hk2 => hG k hk (Nat.lt_of_lt_of_le hk2 hb4.size)
          have halw : AlikeAt F w W := fun k hk hk2 => (hal1 k (.inl hk) (Nat.lt_of_lt_of_le hk2 Q1.out.size)).trans (Q1.out.block k hk2)
          rw [RepPF]
          refine ⟨b', _, _, xs, rfl, h6, RepPF.move halw (fun k hk hk2 => hGG k (.inl hk) (Nat.lt_of_lt_of_le hk2 Q1.out.size)) t _ HV.out, ?_, RepPsF.move (w := w1) (F := F) (fun k hk hk2 => hal1 k (.inl hk) hk2) (fun k hk hk2 => hGG k (.inl hk) hk2) _ _ Q7.out, hb'⟩
          refine ⟨_, c, by rw [HL.out], by rw [HL.out]; exact q4, q5, fun _ => ⟨g, rfl, hal1.cells (.inr q2) Q6.out, hGG g (.inr q2) q3⟩⟩)
        have e : st (text (.app t (sortBag l))) = .string (⟨#[40, 97, 112, 112, 32]⟩ ++ ⟨(text t).toArray⟩ ++ ⟨#[32]⟩ ++ ⟨(bagT (sortBag l)).toArray⟩ ++ ⟨#[41]⟩) := by
          rw [HT.out, st_eq]
          congr 1
        have e2 : ((size (.app t (sortBag l)) : Nat) : Int) = 1 + (size t : Int) + (sizes (sortBag l) : Int) := by rw [size]; push_cast; omega
        rw [e, e2, outer] at h
        exact h.mono (fun e w' hh => PoolPost.elder2 hgr HP.out.far HP.out.map.lt hh)
      have hbs1 : (⟨(text t).toArray⟩ : ByteArray).size = (text t).length := by simp [ByteArray.size]
      have hbs2 : (⟨(bagT (sortBag l)).toArray⟩ : ByteArray).size = (bagT (sortBag l)).length := by simp [ByteArray.size]
      clear hrow hreps
      go_wp2_with fail
      go_region_with (first | (go_at_call 122; refine HBT.out.mono ?_; rintro e w4 ⟨rfl, hb4⟩; have x1 := (below_keeps hb4) _ _ d1; have HB4 := Lib.hid hb4; clear hb4))
      all_goals
        go_wp2_with (go_at_call 104; refine (HI.out w4 HB4.out).mono ?_; rintro e w5 ⟨hg, v, D', rfl, h1, h2⟩; have HH := Lib.hid (And.intro hg (And.intro h1 h2)); clear hg h1 h2)
        go_ret
        exact ⟨HH.out.1, v, D', rfl, HH.out.2⟩

end Go.Proofs.YtopmkddmllmecaaGreatDoor

/-! The walk of sortedBag, at no term too. -/
namespace Go.Proofs.YtopmkddmllmecaaGreatDoor
open Go.RowKit Rt Go.Sort Go.Lib

set_option maxHeartbeats 800000 in
set_option maxRecDepth 100000 in
theorem sortedBag_nil (F : Nat → Prop) (b c : Nat) (w : World) :
    Calls Tryz.prog 121 #[.slice (some ⟨b, 0, none⟩) 0 c] w (BagPost F w []) := by
  have HC : Hid (Calls Tryz.prog 134 #[.slice (some ⟨b, 0, none⟩) 0 c] w fun e w' =>
      ∃ g c', e = .returned (.slice (some ⟨g, 0, none⟩) 0 c') ∧ w.heap.size ≤ g ∧ g < w'.heap.size ∧ 0 ≤ c' ∧ c' ≤ maxLen ∧ Cells w' g [] ∧ (∀ j, w'.frozen? ⟨g, j, none⟩ = false) ∧ Below w.heap.size w w') := clone_any (fun _ => False) [] b c [] w (by simp) (fun j u hu => by simp at hu) (by rw [RepPsF])
  have HS : Hid (∀ g c' W, Calls Tryz.prog 135 #[.slice (some ⟨g, 0, none⟩) 0 c', .func (.func 136) #[] #[]] W fun e w' => e = .returned (.tuple #[]) ∧ w' = W) := fun g c' W => AnyF.slices_SortFunc_none { Tryz.sortTerm with } (some ⟨g, 0, none⟩) c' _ W
  go_enter Tryz.func121, Tryz.ntmps121
  go_wp2_with (first
    | (go_at_call 134; refine HC.out.mono ?_; rintro e w3 ⟨g, c', rfl, q1, q2, q3, q4, q5, q6, q7⟩; have H7 := Lib.hid q7; clear q5 q6 q7)
    | (go_at_call 135; refine (HS.out g c' w3).mono ?_; rintro e w4 ⟨rfl, rfl⟩))
  go_ret
  exact ⟨H7.out, g, c', [], rfl, q1, q2, q3, q4, fun j u hu => by simp at hu, by show RepPsF F _ [] []; rw [RepPsF]⟩

theorem sortedBag_any (F : Nat → Prop) (l : List Term) (k b c : Nat) (xs : List Value) (w : World) (hok : oks k l = true) (hl : l.length ≤ 100000) (hF : ∀ k, F k → k < w.heap.size) (hc : Cells w b xs) (hx : RepPsF F w l xs) :
    Calls Tryz.prog 121 #[.slice (some ⟨b, 0, none⟩) l.length c] w (BagPost F w l) := by
  cases l with
  | nil => exact sortedBag_nil F b c w
  | cons t l => exact sortedBag_cons F (t :: l) k b c xs w (by simp) hok hl hF hc hx

end Go.Proofs.YtopmkddmllmecaaGreatDoor

/-! The walk of newTermPool. -/
namespace Go.Proofs.YtopmkddmllmecaaGreatDoor
open Go.RowKit Rt
open Go.ChangeMaps Go.MapKept Go.Maps Go.WideMaps

set_option maxHeartbeats 800000 in
set_option maxRecDepth 100000 in
theorem newTermPool_any (w : World) :
    Calls Tryz.prog 52 #[] w fun e w' => e = .returned (.pointer (some ⟨w.heap.size + 1, 0, none⟩)) ∧ Below w.heap.size w w' ∧ w'.heap.size = w.heap.size + 2 ∧ Pool (fun _ => False) w' (w.heap.size + 1) w.heap.size 0 (.map []) := by
  have hmm := @run_makeMap Tryz.prog
  go_enter Tryz.func52, Tryz.ntmps52
  go_wp2_with fail
  go_ret
  refine ⟨by simp, ?_, by simp, ?_⟩
  · go_grown
  · refine ⟨⟨.pointer none, [], ?_, rfl⟩, ((World.ownsMap_made w _ _ _).alloc _), isMap_empty, fun h => h, ?_⟩
    · have := Blk.new (w.alloc (.map #[] 0)) 81 #[.map (some w.heap.size), .pointer none]
      simpa using this
    · intro k hk
      simp [Maps.has] at hk

end Go.Proofs.YtopmkddmllmecaaGreatDoor
