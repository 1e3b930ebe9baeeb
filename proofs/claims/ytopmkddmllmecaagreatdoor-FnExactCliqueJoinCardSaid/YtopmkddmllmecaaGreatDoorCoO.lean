/- The model's l5Join: lam. -/
import Derived.Test.YtopmkddmllmecaaGreatDoorCoN
set_option linter.unusedSimpArgs false
set_option linter.unusedVariables false
namespace Go.Proofs.YtopmkddmllmecaaGreatDoor
open Go.RowKit Rt Go.Lib

/-- A row of trees of the call's own that grows; the trees lie in a world that was there before. -/
structure JoRel (w W0 wr : World) (ts : List Term) (n g d : Nat) (xs : List Value) : Prop where
  own : wr.ownsRow W0.heap.size 84 2 (.slice (some ⟨g, 0, none⟩) n d) n xs
  len : ts.length = n
  gB : W0.heap.size ≤ g
  gS : g < wr.heap.size
  rep : RepF w (ofTerms ts) xs

theorem JoRel.next {w W0 wr w5 : World} {ts : List Term} {n g d c5 : Nat} {xs : List Value} {A5 : Option Addr} {us : List Term} {ys : List Value} (h : JoRel w W0 wr ts n g d xs) (hu : 0 < n + us.length) (ho : w5.ownsRow W0.heap.size 84 2 (.slice A5 (n + us.length) c5) (n + us.length) (xs ++ ys)) (hr : RepF w (ofTerms us) ys) :
    ∃ g5, A5 = some ⟨g5, 0, none⟩ ∧ JoRel w W0 w5 (ts ++ us) (n + us.length) g5 c5 (xs ++ ys) := by
  obtain ⟨g5, rfl, o1, o2, o3, o4, o5⟩ := own_cells ho hu
  refine ⟨g5, rfl, ho, by simp [h.len], o1, o2, ?_⟩
  rw [ofTerms_append]
  exact RepF.append _ _ _ _ h.rep hr

theorem JoRel.other {w W0 wr w5 : World} {ts : List Term} {n g d q : Nat} {xs : List Value} (h : JoRel w W0 wr ts n g d xs) (hg : wr.grownBy w5 (some q)) (hne : g ≠ q) : JoRel w W0 w5 ts n g d xs :=
  ⟨h.own.kept hg (.inr (by simp only [Value.ownBlock]; intro e; injection e with e; exact hne e)), h.len, h.gB, Nat.lt_of_lt_of_le h.gS hg.size, h.rep⟩

theorem JoRel.below {w W0 wr w5 : World} {ts : List Term} {n g d : Nat} {xs : List Value} (h : JoRel w W0 wr ts n g d xs) (hb : Below wr.heap.size wr w5) : JoRel w W0 w5 ts n g d xs :=
  ⟨h.own.kept (row := none) ⟨hb.os, hb.tape, hb.output, hb.size, fun q hq _ => hb.block q hq⟩ (by simp [Value.ownBlock]), h.len, h.gB, Nat.lt_of_lt_of_le h.gS hb.size, h.rep⟩

theorem JoRel.row {w W0 wr : World} {ts : List Term} {n g d : Nat} {xs : List Value} (h : JoRel w W0 wr ts n g d xs) (hb : Keeps w wr) : TRow wr (.slice (some ⟨g, 0, none⟩) n d) ts xs :=
  trow_own (B := W0.heap.size) h.own h.len.symm (RepF.keep hb _ _ h.rep)

set_option maxHeartbeats 6400000 in
set_option maxRecDepth 100000 in
theorem join_lam (m : List Term) (j : Jt) (hm : m ≠ []) (hN : m.length ≤ 100000000) (ih : JSaid m j) : JSaid (m.map .lam) (.lam j) := by
  intro v xs w ⟨⟨A, c, hv, hrow⟩, hrf⟩
  subst hv
  obtain ⟨i0, hi0, hz0, hz1, hz2⟩ := info_parts tree_info
  rw [List.length_map] at hrow ⊢
  have hlp : 0 < m.length := by cases m with | nil => exact absurd rfl hm | cons a l => simp
  obtain ⟨g, rfl, hcs⟩ := hrow hlp
  have HCS := Lib.hid hcs
  have HAT : Hid (∀ (k : Nat) (u : Term), m[k]? = some u → ∃ b c x0 y0 x1 y1, xs[k * 2]? = some (st []) ∧ xs[k * 2 + 1]? = some (.slice (some ⟨b, 0, none⟩) 2 c) ∧ 2 ≤ c ∧ c ≤ maxLen ∧ w.cell? ⟨b, 0, none⟩ = some x0 ∧ w.cell? ⟨b, 1, none⟩ = some y0 ∧ w.cell? ⟨b, 2, none⟩ = some x1 ∧ w.cell? ⟨b, 3, none⟩ = some y1 ∧ RepS w (ofTerm u) (.agg #[x1, y1]) ∧ RepS w (ofTerm (.lam u)) (.agg #[st [], .slice (some ⟨b, 0, none⟩) 2 c])) := fun k u hu => by
    obtain ⟨x, y, e1, e2, hr⟩ := RepF.at _ xs k (ofTerm (.lam u)) hrf (ofTerms_at (m.map .lam) k (.lam u) (by rw [List.getElem?_map, hu]; rfl))
    have hr' := hr
    obtain ⟨b, c, y0, x1, y1, hv, h1, h2, c0, c1, c2, c3, ht⟩ := repS_lam hr
    simp at hv
    obtain ⟨rfl, rfl⟩ := hv
    exact ⟨b, c, _, _, x1, y1, e1, e2, h1, h2, c0, c1, c2, c3, ht, hr'⟩
  obtain ⟨t0, ht0⟩ : ∃ t, m[0]? = some t := ⟨m[0], List.getElem?_eq_getElem hlp⟩
  obtain ⟨b0, c0, _, _, x01, y01, f1, f2, -, -, -, -, -, -, -, hrt0⟩ := HAT.out 0 t0 ht0
  have HRT0 := Lib.hid hrt0
  simp only [Nat.zero_mul, Nat.zero_add] at f1 f2
  have D0 := Lib.hid (hcs 0 _ f1)
  have D1 := Lib.hid (hcs 1 _ f2)
  have hX := Blk.new w 84 #[.string ⟨#[]⟩, .slice none 0 0]
  have hn0 : ((m.length : Int) == 0) = false := by simpa using hm
  have hpos : (0 : Int) < (m.length : Int) := by omega
  have IH := Lib.hid ih
  have HTA : Hid (m.take m.length = m) := List.take_length
  clear hcs hrow hrf ht0 f1 f2 hrt0 ih
  rw [st_eq] at D0 HAT HRT0
  go_enter Tryz.func64, Tryz.ntmps64
  go_upto_region 1 with fail
  have hb0 := below_one w (.cells #[.string ⟨#[]⟩, .slice none 0 0] 84)
  generalize w.alloc (.cells #[.string ⟨#[]⟩, .slice none 0 0] 84) = W0 at *
  have hszW0 : w.heap.size + 1 ≤ W0.heap.size := hX.lt
  have HX := Lib.hid hX
  have HB0 := Lib.hid hb0
  have d0 := below_keeps hb0 _ _ D0.out
  clear hX hb0
  go_upto_region 7 with fail
  have hbb := below_two W0 (.cells #[] 84) (.cells #[] 84)
  have hr1 : JoRel w W0 ((W0.alloc (.cells #[] 84)).alloc (.cells #[] 84)) [] 0 W0.heap.size 0 [] :=
    ⟨(own_new W0 84 #[] 0 2 W0.heap.size (Nat.le_refl _) rfl (by decide)).alloc _, rfl, Nat.le_refl _, by simp; omega, by simp [ofTerms, RepF]⟩
  generalize (W0.alloc (.cells #[] 84)).alloc (.cells #[] 84) = W1 at *
  have HBB := Lib.hid hbb
  have HR1 := Lib.hid hr1
  clear hbb hr1 d0
  go_wp2_with fail
  go_loopw [3, 4, 5] (fun fv av iv wr => ∃ (k g1 d1 : Nat) (ys : List Value), k ≤ m.length ∧ iv = .int .i64 k ∧ fv = .slice (some ⟨g1, 0, none⟩) k d1 ∧ av = .slice (some ⟨W0.heap.size + 1, 0, none⟩) 0 0 ∧ Hid (JoRel w W0 wr (m.take k) k g1 d1 ys) ∧ Hid (Below W0.heap.size W0 wr)) (fun _ _ iv _ => m.length - (intOf iv).toNat)
  case atStart => exact ⟨0, W0.heap.size, 0, [], Nat.zero_le _, rfl, rfl, rfl, by show JoRel _ _ _ _ _ _ _ _; rw [List.take_zero]; exact HR1.out, HBB.out⟩
  case round =>
    obtain ⟨k, g1, d1, ys, hk, rfl, rfl, rfl, hJ, hB⟩ := hrel
    have hszr := hB.out.size
    have hKr : Keeps w wr := (below_keeps HB0.out).trans (below_keeps hB.out)
    by_cases hlt : k < m.length
    · obtain ⟨u, hu⟩ : ∃ u, m[k]? = some u := ⟨_, List.getElem?_eq_getElem hlt⟩
      obtain ⟨b, c', x0, y0, x1, y1, e1, e2, h1, h2, p0, p1, p2, p3, hru, hrl⟩ := HAT.out k u hu
      have HRU := Lib.hid hru
      have HRL := Lib.hid hrl
      have hc1 := hKr _ _ (HCS.out _ _ e1)
      have hc2 := hKr _ _ (HCS.out _ _ e2)
      have P2 := hKr _ _ p2
      have P3 := hKr _ _ p3
      have HTS : Hid (m.take (k + 1) = m.take k ++ [u]) := by show _ = _; rw [List.take_add_one, hu]; rfl
      have HONE : Hid (∀ z ∈ [x1, y1], z.oneCell' = true) := repF_one [ofTerm u] [x1, y1] (by rw [RepF]; exact ⟨x1, y1, [], rfl, hru, by rw [RepF]⟩)
      have HCS1 := Lib.hid (hKr _ _ (HCS.out _ _ e1))
      have HCS2 := Lib.hid (hKr _ _ (HCS.out _ _ e2))
      unfold maxLen at h2
      clear hu e1 e2 p0 p1 p2 p3 hru hrl
      go_wp2_with (at_builtin; refine wpList_append_own_at _ rfl _ _ 82 rfl W0.heap.size 84 i0 (.agg #[.string ⟨#[]⟩, .slice none 0 0]) 2 40 Tryz.underlying82 hi0 hz0 hz1 hz2 rfl (Nat.succ_pos 1) (.slice (some ⟨g1, 0, none⟩) k d1) k ys rfl (hJ.out.own.alloc _) ⟨wr.heap.size, 0, none⟩ 1 1 [x1, y1] rfl rfl (cell_two_new _ _ _ _) HONE.out ?_ ?_ ?_ ?_)
      · unfold maxLen; omega
      · omega
      · simp; omega
      · intro v' w5 hown5 hgrow5 _ hat5
        obtain ⟨A5, c5', rfl⟩ := own_shape hown5
        have hn5 : ∃ g5, A5 = some ⟨g5, 0, none⟩ ∧ JoRel w W0 w5 (m.take k ++ [u]) (k + 1) g5 c5' (ys ++ [x1, y1]) := JoRel.next (us := [u]) hJ.out (by simp) hown5 (by show RepF w [ofTerm u] [x1, y1]; rw [RepF]; exact ⟨x1, y1, [], rfl, HRU.out, by rw [RepF]⟩)
        obtain ⟨g5, rfl, hJ5⟩ := hn5
        have HJ5 := Lib.hid hJ5
        have HB5 : Hid (Below W0.heap.size W0 w5) := ((hB.out.alloc hszr _)).grown hgrow5 (by simp; omega) (fun q hq => by simp [Value.ownBlock] at hq; have := hJ.out.gB; omega)
        have hk5 : ∀ q, q < W0.heap.size → w5.heap[q]? = wr.heap[q]? := fun q hq => by rw [HB5.out.block q hq, hB.out.block q hq]
        have hgW : g < W0.heap.size := Nat.lt_of_lt_of_le (World.block_lt_of_cell? w _ D0.out) (by omega)
        have n1 : w5.cell? ⟨g, k * 2, none⟩ = some (.string ⟨[].toArray⟩) := by rw [World.cell?_of_block (hk5 g hgW)]; exact HCS1.out
        have n2 : w5.cell? ⟨g, k * 2 + 1, none⟩ = some (.slice (some ⟨b, 0, none⟩) 2 c') := by rw [World.cell?_of_block (hk5 g hgW)]; exact HCS2.out
        have HHD := Lib.hid (l1Head_any (ofTerm (.lam u)) _ w5 (HRL.out.keep ((below_keeps HB0.out).trans (below_keeps HB5.out))))
        rw [st_eq, show headT (ofTerm (.lam u)) = [108, 97, 109] from rfl] at HHD
        clear hown5 hgrow5 hat5 hJ5 hk5 hc1 hc2 P2 P3
        go_wp2_with fail
        refine HHD.out.mono ?_
        rintro e w6 ⟨rfl, hb6⟩
        have HB6 : Hid (Below W0.heap.size W0 w6) := HB5.out.trans (hb6.mono HB5.out.size)
        have HJ6 : Hid (JoRel w W0 w6 (m.take (k + 1)) (k + 1) g5 c5' (ys ++ [x1, y1])) := by
          show JoRel _ _ _ _ _ _ _ _
          rw [HTS.out]; exact HJ5.out.below hb6
        clear hb6
        go_wp2_with fail
        go_roundw
        case rel => exact ⟨k + 1, g5, c5', _, by omega, by go_num, rfl, rfl, HJ6.out, HB6.out⟩
        case measure => simp [intOf]; omega
    · obtain rfl : k = m.length := by omega
      have hJ2 : JoRel w W0 wr m m.length g1 d1 ys := by have := hJ.out; rwa [HTA.out] at this
      have HJ2 := Lib.hid hJ2
      have n1 := hKr _ _ D0.out
      have n2 := hKr _ _ D1.out
      have HHD := Lib.hid (l1Head_any (ofTerm (.lam t0)) _ wr (HRT0.out.keep hKr))
      rw [st_eq, show headT (ofTerm (.lam t0)) = [108, 97, 109] from rfl] at HHD
      have hX2 := HX.out.below hB.out HX.out.lt
      clear hJ2
      go_wp2_with fail
      refine HHD.out.mono ?_
      rintro e w6 ⟨rfl, hb6⟩
      have hB6 : Below W0.heap.size W0 w6 := hB.out.trans (hb6.mono hszr)
      have HB6 := Lib.hid hB6
      have HIH := Lib.hid (IH.out _ _ w6 ((HJ2.out.below hb6).row (hKr.trans (below_keeps hb6))))
      have hX6 := hX2.below hb6 hX2.lt
      have hsz6 : w.heap.size + 1 ≤ w6.heap.size := hX6.lt
      clear hb6 hB6 hX2
      go_wp2_with fail
      refine HIH.out.mono ?_
      rintro e w7 ⟨hb7, v7, rfl, hr7⟩
      obtain ⟨u7, A7, n7, c7, rfl⟩ := repS_shape (RepSF.rep _ _ hr7)
      have hX7 := hX6.below hb7 hX6.lt
      have HX7 := Lib.hid hX7
      have HB7 : Hid (Below W0.heap.size W0 w7) := HB6.out.trans (hb7.mono HB6.out.size)
      have hsz7 : w6.heap.size ≤ w7.heap.size := hb7.size
      have HR7 := Lib.hid hr7
      clear hb7 hr7 hX6 hX7 HIH
      go_wp2_with fail
      refine (l1List_any (fun k => w6.heap.size ≤ k) [108, 97, 109] ⟨w7.heap.size, 0, none⟩ 1 [jtree j] [.string ⟨u7.toArray⟩, .slice A7 n7 c7] _ (by simp) (by simp) (cell_two_new w7 _ _ _) ?_).mono ?_
      · exact RepFF.one (RepSF.move (fun k _ hk => Below.heap_alloc _ _ _ hk) (fun k hk _ => hk) _ _ HR7.out)
      rintro e w8 ⟨hb8, v8, rfl, hr8⟩
      obtain ⟨u8, A8, n8, c8, rfl⟩ := repS_shape (RepSF.rep _ _ hr8)
      have hret8 := (HX7.out.alloc (.cells #[.string ⟨u7.toArray⟩, .slice A7 n7 c7] 84)).below hb8 (by simp; omega)
      obtain ⟨r0, r1, z0, z1⟩ := blk_cells hret8
      have HB8 : Hid (Below w.heap.size w w8) := (HB0.out.trans (HB7.out.mono (by omega))).trans (((below_one w7 _).trans (hb8.mono (by simp))).mono (by omega))
      have HR8 := Lib.hid hr8
      clear hr8 hret8 hb8
      go_wp2_with fail
      all_goals
        refine bodyPost_ret (v := .agg #[.string ⟨u8.toArray⟩, .slice A8 n8 c8]) ?_ rfl ?_
        · simp [results, Tryz.results64, go_sem, r0, r1]
        · refine ⟨(HB8.out.setCell (by simp) _).setCell (by simp) _, _, rfl, ?_⟩
          rw [jtree]
          refine RepSF.move ?_ ?_ _ _ HR8.out
          · intro k hk hk2
            rw [Below.heap_setCell _ _ _ _ (by show k ≠ w.heap.size; simp at hk; omega), Below.heap_setCell _ _ _ _ (by show k ≠ w.heap.size; simp at hk; omega)]
          · intro k hk hk2
            simp at hk
            omega

end Go.Proofs.YtopmkddmllmecaaGreatDoor
