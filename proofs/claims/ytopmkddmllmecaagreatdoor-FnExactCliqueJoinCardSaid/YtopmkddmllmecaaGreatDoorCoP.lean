/- The model's l5Join: app. -/
import Derived.Test.YtopmkddmllmecaaGreatDoorCoO
set_option linter.unusedSimpArgs false
set_option linter.unusedVariables false
namespace Go.Proofs.YtopmkddmllmecaaGreatDoor
open Go.RowKit Rt Go.Lib

set_option maxHeartbeats 6400000 in
set_option maxRecDepth 100000 in
theorem join_app (m : List (Term × List Term)) (j j2 : Jt) (hm : m ≠ []) (hN : m.length ≤ 100000000) (hN2 : (m.flatMap (·.2)).length ≤ 100000000) (ih : JSaid (m.map (·.1)) j) (ih2 : JSaid (m.flatMap (·.2)) j2) : JSaid (m.map fun p => .app p.1 p.2) (.app j j2) := by
  intro v xs w ⟨⟨A, c, hv, hrow⟩, hrf⟩
  subst hv
  obtain ⟨i0, hi0, hz0, hz1, hz2⟩ := info_parts tree_info
  rw [List.length_map] at hrow ⊢
  have hlp : 0 < m.length := by cases m with | nil => exact absurd rfl hm | cons a l => simp
  obtain ⟨g, rfl, hcs⟩ := hrow hlp
  have HCS := Lib.hid hcs
  have HAT : Hid (∀ (k : Nat) (u : Term × List Term), m[k]? = some u → ∃ b c x0 y0 x1 y1 g d ys, xs[k * 2]? = some (st []) ∧ xs[k * 2 + 1]? = some (.slice (some ⟨b, 0, none⟩) 3 c) ∧ 3 ≤ c ∧ c ≤ maxLen ∧ w.cell? ⟨b, 0, none⟩ = some x0 ∧ w.cell? ⟨b, 1, none⟩ = some y0 ∧ w.cell? ⟨b, 2, none⟩ = some x1 ∧ w.cell? ⟨b, 3, none⟩ = some y1 ∧ RepS w (ofTerm u.1) (.agg #[x1, y1]) ∧ RepS w (ofTerm (.app u.1 u.2)) (.agg #[st [], .slice (some ⟨b, 0, none⟩) 3 c]) ∧
      w.cell? ⟨b, 5, none⟩ = some (.slice (some ⟨g, 0, none⟩) (u.2.length + 1) d) ∧ u.2.length + 1 ≤ d ∧ d ≤ maxLen ∧ Cells w g ys ∧ RepF w (.atom sM :: ofTerms u.2) ys) := fun k u hu => by
    obtain ⟨x, y, e1, e2, hr⟩ := RepF.at _ xs k (ofTerm (.app u.1 u.2)) hrf (ofTerms_at (m.map fun p => .app p.1 p.2) k (.app u.1 u.2) (by rw [List.getElem?_map, hu]; rfl))
    have hr' := hr
    obtain ⟨b, c, y0, x1, y1, g, d, ys, hv, h1, h2, c0, c1, c2, c3, ht, c4, c5, h3, h4, hc, hf⟩ := repS_app hr
    simp at hv
    obtain ⟨rfl, rfl⟩ := hv
    exact ⟨b, c, _, _, x1, y1, g, d, ys, e1, e2, h1, h2, c0, c1, c2, c3, ht, hr', c5, h3, h4, hc, hf⟩
  obtain ⟨t0, ht0⟩ : ∃ t, m[0]? = some t := ⟨m[0], List.getElem?_eq_getElem hlp⟩
  obtain ⟨b0, c0, _, _, x01, y01, _, _, _, f1, f2, -, -, -, -, -, -, -, hrt0, -⟩ := HAT.out 0 t0 ht0
  have HRT0 := Lib.hid hrt0
  simp only [Nat.zero_mul, Nat.zero_add] at f1 f2
  have D0 := Lib.hid (hcs 0 _ f1)
  have D1 := Lib.hid (hcs 1 _ f2)
  have hX := Blk.new w 84 #[.string ⟨#[]⟩, .slice none 0 0]
  have hn0 : ((m.length : Int) == 0) = false := by simpa using hm
  have hpos : (0 : Int) < (m.length : Int) := by omega
  have IH := Lib.hid ih
  have IH2 := Lib.hid ih2
  have HTA : Hid (m.take m.length = m) := List.take_length
  have HFL : Hid (∀ k, ((m.take k).flatMap (·.2)).length ≤ 100000000) := fun k => by
    refine Nat.le_trans ?_ hN2
    conv => rhs; rw [← List.take_append_drop k m]
    rw [List.flatMap_append, List.length_append]; omega
  clear hcs hrow hrf ht0 f1 f2 hrt0 ih ih2
  rw [st_eq] at D0 HAT HRT0
  go_enter Tryz.func64, Tryz.ntmps64
  go_upto_region 1 with fail
  have hb0 := below_one w (.cells #[.string ⟨#[]⟩, .slice none 0 0] 84)
  generalize w.alloc (.cells #[.string ⟨#[]⟩, .slice none 0 0] 84) = W0 at *
  have hszW0 : w.heap.size + 1 ≤ W0.heap.size := hX.lt
  have HX := Lib.hid hX
  have HB0 := Lib.hid hb0
  have d0 := below_keeps hb0 _ _ D0.out
  clear hX hb0
  go_upto_region 7 with fail
  have hbb := below_two W0 (.cells #[] 84) (.cells #[] 84)
  have hr1 : JoRel w W0 ((W0.alloc (.cells #[] 84)).alloc (.cells #[] 84)) [] 0 W0.heap.size 0 [] :=
    ⟨(own_new W0 84 #[] 0 2 W0.heap.size (Nat.le_refl _) rfl (by decide)).alloc _, rfl, Nat.le_refl _, by simp; omega, by simp [ofTerms, RepF]⟩
  have hr2 : JoRel w W0 ((W0.alloc (.cells #[] 84)).alloc (.cells #[] 84)) [] 0 (W0.heap.size + 1) 0 [] := by
    have := own_new (W0.alloc (.cells #[] 84)) 84 #[] 0 2 W0.heap.size (by simp) rfl (by decide)
    exact ⟨by simpa using this, rfl, by omega, by simp, by simp [ofTerms, RepF]⟩
  generalize (W0.alloc (.cells #[] 84)).alloc (.cells #[] 84) = W1 at *
  have HBB := Lib.hid hbb
  have HR1 := Lib.hid hr1
  have HR2 := Lib.hid hr2
  clear hbb hr1 hr2 d0
  go_wp2_with fail
  go_loopw [3, 4, 5] (fun fv av iv wr => ∃ (k g1 d1 g2 n2 d2 : Nat) (ys zs : List Value), k ≤ m.length ∧ iv = .int .i64 k ∧ fv = .slice (some ⟨g1, 0, none⟩) k d1 ∧ av = .slice (some ⟨g2, 0, none⟩) n2 d2 ∧ Hid (JoRel w W0 wr ((m.map (·.1)).take k) k g1 d1 ys) ∧ Hid (JoRel w W0 wr ((m.take k).flatMap (·.2)) n2 g2 d2 zs) ∧ g1 ≠ g2 ∧ Hid (Below W0.heap.size W0 wr)) (fun _ _ iv _ => m.length - (intOf iv).toNat)
  case atStart => exact ⟨0, W0.heap.size, 0, W0.heap.size + 1, 0, 0, [], [], Nat.zero_le _, rfl, rfl, rfl, by show JoRel _ _ _ _ _ _ _ _; rw [List.take_zero]; exact HR1.out, by show JoRel _ _ _ _ _ _ _ _; rw [List.take_zero]; exact HR2.out, by omega, HBB.out⟩
  case round =>
    obtain ⟨k, g1, d1, g2, n2, d2, ys, zs, hk, rfl, rfl, rfl, hJ, hK, hne, hB⟩ := hrel
    have hszr := hB.out.size
    have hKr : Keeps w wr := (below_keeps HB0.out).trans (below_keeps hB.out)
    have hn2 : n2 ≤ 100000000 := by have := hK.out.len; have := HFL.out k; omega
    by_cases hlt : k < m.length
    · obtain ⟨u, hu⟩ : ∃ u, m[k]? = some u := ⟨_, List.getElem?_eq_getElem hlt⟩
      obtain ⟨b, c', x0, y0, x1, y1, gb, db, bs, e1, e2, h1, h2, p0, p1, p2, p3, hru, hrl, p5, h3, h4, hcb, hfb⟩ := HAT.out k u hu
      have HRU := Lib.hid hru
      have HRL := Lib.hid hrl
      have hc1 := hKr _ _ (HCS.out _ _ e1)
      have hc2 := hKr _ _ (HCS.out _ _ e2)
      have P2 := hKr _ _ p2
      have P3 := hKr _ _ p3
      have HP5 := Lib.hid p5
      have HTS : Hid ((m.map (·.1)).take (k + 1) = (m.map (·.1)).take k ++ [u.1]) := by show _ = _; rw [List.take_add_one, List.getElem?_map, hu]; rfl
      have HTF : Hid ((m.take (k + 1)).flatMap (·.2) = (m.take k).flatMap (·.2) ++ u.2) := by show _ = _; rw [List.take_add_one, hu, List.flatMap_append]; simp
      have hn3 : n2 + u.2.length ≤ 100000000 := by
        have h5 := HFL.out (k + 1)
        rw [HTF.out, List.length_append] at h5
        have := hK.out.len; omega
      have HONE : Hid (∀ z ∈ [x1, y1], z.oneCell' = true) := repF_one [ofTerm u.1] [x1, y1] (by rw [RepF]; exact ⟨x1, y1, [], rfl, hru, by rw [RepF]⟩)
      have HCS1 := Lib.hid (hKr _ _ (HCS.out _ _ e1))
      have HCS2 := Lib.hid (hKr _ _ (HCS.out _ _ e2))
      obtain ⟨mb, nb, cs, rfl, hmb, hqb⟩ := repF_cons hfb
      have hlenb := RepF.length _ _ hqb
      rw [ofTerms_length] at hlenb
      have HLB := Lib.hid hlenb
      have HOB : Hid (∀ z ∈ cs, z.oneCell' = true) := repF_one _ _ hqb
      have HQB := Lib.hid hqb
      obtain ⟨ad, hsl, hadb, had⟩ := slice_tail gb db u.2.length h3
      have HAD : Hid (∀ V, Keeps w V → ∀ i z, cs[i]? = some z → V.cell? (ad.add i) = some z) := fun V hV i z hz => by
        have : u.2.length ≠ 0 := by have := (List.getElem?_eq_some_iff.1 hz).1; omega
        rw [had this, Addr.add_lit]; exact hV _ _ (hcb (2 + i) z (by rw [show 2 + i = i + 1 + 1 by omega]; simpa using hz))
      unfold maxLen at h2 h4
      clear hu e1 e2 p0 p1 p2 p3 hru hrl p5 hcb hfb hmb hqb hlenb hadb had
      generalize u.2.length = nu at *
      go_wp2_with (at_builtin; refine wpList_append_own_at _ rfl _ _ 82 rfl W0.heap.size 84 i0 (.agg #[.string ⟨#[]⟩, .slice none 0 0]) 2 40 Tryz.underlying82 hi0 hz0 hz1 hz2 rfl (Nat.succ_pos 1) (.slice (some ⟨g1, 0, none⟩) k d1) k ys rfl (hJ.out.own.alloc _) ⟨wr.heap.size, 0, none⟩ 1 1 [x1, y1] rfl rfl (cell_two_new _ _ _ _) HONE.out ?_ ?_ ?_ ?_)
      · unfold maxLen; omega
      · omega
      · first | omega | (simp; omega) | exact Nat.le_trans hszr (by simp)
      · intro v' w5 hown5 hgrow5 _ hat5
        obtain ⟨A5, c5', rfl⟩ := own_shape hown5
        have hn5 : ∃ g5, A5 = some ⟨g5, 0, none⟩ ∧ JoRel w W0 w5 ((m.map (·.1)).take k ++ [u.1]) (k + 1) g5 c5' (ys ++ [x1, y1]) := JoRel.next (us := [u.1]) hJ.out (by simp) hown5 (by show RepF w [ofTerm u.1] [x1, y1]; rw [RepF]; exact ⟨x1, y1, [], rfl, HRU.out, by rw [RepF]⟩)
        obtain ⟨g5, rfl, hJ5⟩ := hn5
        have HJ5 := Lib.hid hJ5
        have hgK := hK.out.gS
        have hne5 : g5 ≠ g2 := by
          rcases hat5 with h | h
          · simp [Value.ownBlock] at h; omega
          · simp [Value.ownBlock] at h; omega
        have HK5 : Hid (JoRel w W0 w5 ((m.take k).flatMap (·.2)) n2 g2 d2 zs) := (hK.out.below (below_one wr _)).other hgrow5 (fun e => hne e.symm)
        have HB5 : Hid (Below W0.heap.size W0 w5) := ((hB.out.alloc hszr _)).grown hgrow5 (by simp; omega) (fun q hq => by simp [Value.ownBlock] at hq; have := hJ.out.gB; omega)
        have hk5 : ∀ q, q < W0.heap.size → w5.heap[q]? = wr.heap[q]? := fun q hq => by rw [HB5.out.block q hq, hB.out.block q hq]
        have hgW : g < W0.heap.size := Nat.lt_of_lt_of_le (World.block_lt_of_cell? w _ D0.out) (by omega)
        have n1 : w5.cell? ⟨g, k * 2, none⟩ = some (.string ⟨[].toArray⟩) := by rw [World.cell?_of_block (hk5 g hgW)]; exact HCS1.out
        have n2' : w5.cell? ⟨g, k * 2 + 1, none⟩ = some (.slice (some ⟨b, 0, none⟩) 3 c') := by rw [World.cell?_of_block (hk5 g hgW)]; exact HCS2.out
        have HN1 := Lib.hid n1
        have HN2 := Lib.hid n2'
        have hK5 := (below_keeps HB0.out).trans (below_keeps HB5.out)
        have HHD := Lib.hid (l1Head_any (ofTerm (.app u.1 u.2)) _ w5 (HRL.out.keep hK5))
        rw [st_eq, show headT (ofTerm (.app u.1 u.2)) = [97, 112, 112] from rfl] at HHD
        clear hown5 hgrow5 hat5 hJ5 hk5 hc1 hc2 P2 P3
        go_wp2_with fail
        refine HHD.out.mono ?_
        rintro e w6 ⟨rfl, hb6⟩
        have HB6 : Hid (Below W0.heap.size W0 w6) := HB5.out.trans (hb6.mono HB5.out.size)
        have HJ6 : Hid (JoRel w W0 w6 ((m.map (·.1)).take (k + 1)) (k + 1) g5 c5' (ys ++ [x1, y1])) := by
          show JoRel _ _ _ _ _ _ _ _
          rw [HTS.out]; exact HJ5.out.below hb6
        have HK6 := Lib.hid (HK5.out.below hb6)
        have hK6 := hK5.trans (below_keeps hb6)
        have o1 := below_keeps hb6 _ _ HN1.out
        have o2 := below_keeps hb6 _ _ HN2.out
        have o5 := hK6 _ _ HP5.out
        have HKK6 := Lib.hid hK6
        clear hb6 n1 n2' hK5 hK6
        go_wp2_with (at_builtin; refine wpList_append_own_at _ rfl _ _ 82 rfl W0.heap.size 84 i0 (.agg #[.string ⟨#[]⟩, .slice none 0 0]) 2 40 Tryz.underlying82 hi0 hz0 hz1 hz2 rfl (Nat.succ_pos 1) (.slice (some ⟨g2, 0, none⟩) n2 d2) n2 zs rfl HK6.out.own ad nu (db - 1) cs rfl HLB.out (HAD.out _ HKK6.out) HOB.out ?_ ?_ ?_ ?_)
        · unfold maxLen; omega
        · omega
        · exact HB6.out.size
        · intro v' w7 hown7 hgrow7 hnil7 hat7
          obtain ⟨A7, c7, rfl⟩ := own_shape hown7
          have hg7 : ∃ g7, A7 = some ⟨g7, 0, none⟩ ∧ g7 ≠ g5 ∧ W0.heap.size ≤ g7 ∧ g7 < w7.heap.size := by
            have hgJ := HJ6.out.gS
            have hgB2 := HK6.out.gB
            rcases hown7.2 with ⟨h0, _⟩ | ⟨gg, cap, cur, h0, hbg, hgh, _⟩
            · exfalso
              first
                | exact hnil7 h0
                | (have := hnil7.1 h0; simp at this)
            · simp at h0
              obtain ⟨rfl, _⟩ := h0
              refine ⟨gg, rfl, ?_, hbg, ?_⟩
              · rcases hat7 with h | h
                · simp [Value.ownBlock] at h; omega
                · simp [Value.ownBlock] at h; omega
              · rcases Nat.lt_or_ge gg w7.heap.size with h | h
                · exact h
                · rw [Array.getElem?_eq_none h] at hgh; cases hgh
          obtain ⟨g7, rfl, hne7, hgB7, hgS7⟩ := hg7
          have HK7 : Hid (JoRel w W0 w7 ((m.take (k + 1)).flatMap (·.2)) (n2 + nu) g7 c7 (zs ++ cs)) := by
            show JoRel _ _ _ _ _ _ _ _
            rw [HTF.out]
            refine ⟨hown7, ?_, hgB7, hgS7, ?_⟩
            · have h1 := HK6.out.len
              have h2 := HLB.out
              have h3 := RepF.length _ _ HQB.out
              rw [ofTerms_length] at h3
              rw [List.length_append]; omega
            · rw [ofTerms_append]; exact RepF.append _ _ _ _ HK6.out.rep HQB.out
          have HJ7 : Hid (JoRel w W0 w7 ((m.map (·.1)).take (k + 1)) (k + 1) g5 c5' (ys ++ [x1, y1])) := HJ6.out.other hgrow7 hne5
          have HB7 : Hid (Below W0.heap.size W0 w7) := HB6.out.grown hgrow7 HB6.out.size (fun q hq => by simp [Value.ownBlock] at hq; have := HK6.out.gB; omega)
          clear hown7 hgrow7 hnil7 hat7 o1 o2 o5
          go_wp2_with fail
          go_roundw
          case rel => exact ⟨k + 1, g5, c5', g7, n2 + nu, c7, _, _, by omega, by go_num, rfl, rfl, HJ7.out, HK7.out, fun e => hne7 e.symm, HB7.out⟩
          case measure => simp [intOf]; omega
    · obtain rfl : k = m.length := by omega
      have hJ2 : JoRel w W0 wr (m.map (·.1)) m.length g1 d1 ys := by have := hJ.out; rwa [show m.length = (m.map (·.1)).length by simp, List.take_length, List.length_map] at this
      have hK2 : JoRel w W0 wr (m.flatMap (·.2)) n2 g2 d2 zs := by have := hK.out; rwa [HTA.out] at this
      have HK2 := Lib.hid hK2
      clear hK2
      have HJ2 := Lib.hid hJ2
      have n1 := hKr _ _ D0.out
      have n2 := hKr _ _ D1.out
      have HHD := Lib.hid (l1Head_any (ofTerm (.app t0.1 t0.2)) _ wr (HRT0.out.keep hKr))
      rw [st_eq, show headT (ofTerm (.app t0.1 t0.2)) = [97, 112, 112] from rfl] at HHD
      have hX2 := HX.out.below hB.out HX.out.lt
      clear hJ2
      go_wp2_with fail
      refine HHD.out.mono ?_
      rintro e w6 ⟨rfl, hb6⟩
      have hB6 : Below W0.heap.size W0 w6 := hB.out.trans (hb6.mono hszr)
      have HB6 := Lib.hid hB6
      have HIH := Lib.hid (IH.out _ _ w6 ((HJ2.out.below hb6).row (hKr.trans (below_keeps hb6))))
      have hX6 := hX2.below hb6 hX2.lt
      have HB67 : Hid (Below wr.heap.size wr w6) := hb6
      have hsz6 : w.heap.size + 1 ≤ w6.heap.size := hX6.lt
      clear hb6 hB6 hX2
      go_wp2_with fail
      refine HIH.out.mono ?_
      rintro e w7 ⟨hb7, v7, rfl, hr7⟩
      obtain ⟨u7, A7, n7, c7, rfl⟩ := repS_shape (RepSF.rep _ _ hr7)
      have hX7 := hX6.below hb7 hX6.lt
      have HB7 : Hid (Below W0.heap.size W0 w7) := HB6.out.trans (hb7.mono HB6.out.size)
      have hsz7 : w6.heap.size ≤ w7.heap.size := hb7.size
      have HR7 := Lib.hid hr7
      have HIH2 := Lib.hid (IH2.out _ _ w7 (((HK2.out.below (HB67.out.trans (hb7.mono HB67.out.size))).row ((below_keeps HB0.out).trans (below_keeps HB7.out)))))
      clear hb7 hr7 hX6 HIH
      go_wp2_with fail
      refine HIH2.out.mono ?_
      rintro e w9 ⟨hb9, v9, rfl, hr9⟩
      obtain ⟨u9, A9, n9, c9, rfl⟩ := repS_shape (RepSF.rep _ _ hr9)
      have HX9 := Lib.hid (hX7.below hb9 hX7.lt)
      have HB9 : Hid (Below W0.heap.size W0 w9) := HB7.out.trans (hb9.mono HB7.out.size)
      have hsz9 : w7.heap.size ≤ w9.heap.size := hb9.size
      have HR9 := Lib.hid hr9
      have HR79 : Hid (RepSF (fun q => w6.heap.size ≤ q) w9 (jtree j) (.agg #[.string ⟨u7.toArray⟩, .slice A7 n7 c7])) := RepSF.move (fun k hk hk2 => hb9.block k hk2) (fun k hk _ => hk) _ _ HR7.out
      clear hb9 hr9 hX7 HIH2
      go_wp2_with fail
      refine (l1List_any (fun k => w6.heap.size ≤ k) [97, 112, 112] ⟨w9.heap.size, 0, none⟩ 2 [jtree j, jtree j2] [.string ⟨u7.toArray⟩, .slice A7 n7 c7, .string ⟨u9.toArray⟩, .slice A9 n9 c9] _ (by simp) (by simp) (cells_new w9 _ _ _ rfl) ?_).mono ?_
      · have t1 : RepSF (fun k => w6.heap.size ≤ k) (w9.alloc (.cells #[.string ⟨u7.toArray⟩, .slice A7 n7 c7, .string ⟨u9.toArray⟩, .slice A9 n9 c9] 84)) (jtree j) (.agg #[.string ⟨u7.toArray⟩, .slice A7 n7 c7]) := RepSF.move (fun k _ hk => Below.heap_alloc _ _ _ hk) (fun k hk _ => hk) _ _ HR79.out
        have t2 : RepSF (fun k => w6.heap.size ≤ k) (w9.alloc (.cells #[.string ⟨u7.toArray⟩, .slice A7 n7 c7, .string ⟨u9.toArray⟩, .slice A9 n9 c9] 84)) (jtree j2) (.agg #[.string ⟨u9.toArray⟩, .slice A9 n9 c9]) := RepSF.move (fun k _ hk => Below.heap_alloc _ _ _ hk) (fun k hk _ => Nat.le_trans hsz7 hk) _ _ HR9.out
        rw [RepFF]
        exact ⟨_, _, _, rfl, t1, RepFF.one t2⟩
      rintro e w8 ⟨hb8, v8, rfl, hr8⟩
      obtain ⟨u8, A8, n8, c8, rfl⟩ := repS_shape (RepSF.rep _ _ hr8)
      have hret8 := (HX9.out.alloc (.cells #[.string ⟨u7.toArray⟩, .slice A7 n7 c7, .string ⟨u9.toArray⟩, .slice A9 n9 c9] 84)).below hb8 (by simp; omega)
      obtain ⟨r0, r1, z0, z1⟩ := blk_cells hret8
      have HB8 : Hid (Below w.heap.size w w8) := (HB0.out.trans (HB9.out.mono (by omega))).trans (((below_one w9 _).trans (hb8.mono (by simp))).mono (by omega))
      have HR8 := Lib.hid hr8
      clear hr8 hret8 hb8
      go_wp2_with fail
      all_goals
        refine bodyPost_ret (v := .agg #[.string ⟨u8.toArray⟩, .slice A8 n8 c8]) ?_ rfl ?_
        · simp [results, Tryz.results64, go_sem, r0, r1]
        · refine ⟨(HB8.out.setCell (by simp) _).setCell (by simp) _, _, rfl, ?_⟩
          rw [jtree]
          refine RepSF.move ?_ ?_ _ _ HR8.out
          · intro k hk hk2
            rw [Below.heap_setCell _ _ _ _ (by show k ≠ w.heap.size; simp at hk; omega), Below.heap_setCell _ _ _ _ (by show k ≠ w.heap.size; simp at hk; omega)]
          · intro k hk hk2
            simp at hk
            omega

end Go.Proofs.YtopmkddmllmecaaGreatDoor
