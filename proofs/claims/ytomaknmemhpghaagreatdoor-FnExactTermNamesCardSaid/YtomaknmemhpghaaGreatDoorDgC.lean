/- The walks of the model's l1Atoms, l1Degree and TermDegree. -/
import Derived.Test.YtomaknmemhpghaaGreatDoorSpA
import Derived.Test.YtomaknmemhpghaaGreatDoorDgB
import Derived.Test.YtomaknmemhpghaaGreatDoorSwC
namespace Go.Proofs.YtomaknmemhpghaaGreatDoor
open Go.RowKit Rt

def sv_ (l : List B) : List Value := l.map fun s => .string ⟨s.toArray⟩

theorem sv_append (a b : List B) : sv_ (a ++ b) = sv_ a ++ sv_ b := List.map_append
theorem sv_len (a : List B) : (sv_ a).length = a.length := by simp [sv_]

/-- A list of texts that a call has gone on with: of what was there before, its own row alone is written. -/
def AtomsPost (B0 : Nat) (w : World) (g : Nat) (l : List B) (e : Ending) (w' : World) : Prop :=
  w.grownBy w' (some g) ∧ ∃ g' c, e = .returned (.slice (some ⟨g', 0, none⟩) l.length c) ∧ w'.ownsRow B0 9 1 (.slice (some ⟨g', 0, none⟩) l.length c) l.length (sv_ l) ∧ (g' = g ∨ w.heap.size ≤ g')

theorem grown_next {w w3 w4 : World} {g g3 : Nat} (h1 : w.grownBy w3 (some g)) (hg : g3 = g ∨ w.heap.size ≤ g3) (h2 : w3.grownBy w4 (some g3)) : w.grownBy w4 (some g) := by
  have hs := h1.size
  refine ⟨h2.os.trans h1.os, h2.tape.trans h1.tape, h2.output.trans h1.output, Nat.le_trans h1.size h2.size, fun k hk hne => ?_⟩
  rw [h2.block k (by omega) ?_]
  · exact h1.block k hk hne
  · intro e
    injection e with e
    rcases hg with h | h
    · exact hne (by rw [e, h])
    · omega

theorem below_grownAt {w w' : World} (h : Below w.heap.size w w') (g : Nat) : w.grownBy w' (some g) := ⟨h.os, h.tape, h.output, h.size, fun k hk _ => h.block k hk⟩

set_option maxHeartbeats 1600000 in
set_option maxRecDepth 100000 in
theorem l1Atoms_atom (B0 : Nat) (s : B) (l : List B) (g c : Nat) (w : World) (hl : l.length ≤ 100000) (hB : B0 ≤ w.heap.size) (hown : w.ownsRow B0 9 1 (.slice (some ⟨g, 0, none⟩) l.length c) l.length (sv_ l)) :
    Calls Tryz.prog 76 #[.agg #[st s, .slice none 0 0], .slice (some ⟨g, 0, none⟩) l.length c] w (AtomsPost B0 w g (l ++ [s])) := by
  obtain ⟨i0, hi0, hz0, hz1, hz2⟩ := info_parts text_info
  have hrep : ∀ w, RepS w (.atom s) (.agg #[st s, .slice none 0 0]) := fun w => by rw [RepS]
  rw [st_eq] at hrep ⊢
  have HOWN := Lib.hid hown
  have hbox := Blk.new w 55 #[.string ⟨s.toArray⟩, .slice none 0 0]
  have hW := below_one w (.cells #[.string ⟨s.toArray⟩, .slice none 0 0] 55)
  have HSV : Hid (sv_ (l ++ [s]) = sv_ l ++ [.string ⟨s.toArray⟩] ∧ (l ++ [s]).length = l.length + 1) := ⟨by rw [sv_append]; rfl, by simp⟩
  have hgl := (own_block_lt hown g rfl).2
  clear hown
  go_enter Tryz.func76, Tryz.ntmps76
  go_wp2_with fail
  generalize w.alloc (.cells #[.string ⟨s.toArray⟩, .slice none 0 0] 55) = W at *
  refine (l1Head_any (.atom s) _ _ (hrep _)).mono ?_
  rintro e w2 ⟨rfl, hb2⟩
  rw [st_eq, show headT (.atom s) = [] from rfl]
  have hbox2 := hbox.below hb2 hbox.lt
  obtain ⟨p0, p1, _, _⟩ := blk_cells hbox2
  have hbb := Lib.hid (hW.trans (hb2.mono hW.size))
  have hsz : w.heap.size + 1 ≤ w2.heap.size := hbox2.lt
  have hown2 : w2.ownsRow B0 9 1 (.slice (some ⟨g, 0, none⟩) l.length c) l.length (sv_ l) := HOWN.out.kept (row := none) ⟨hbb.out.os, hbb.out.tape, hbb.out.output, hbb.out.size, fun q hq _ => hbb.out.block q hq⟩ (by simp [Value.ownBlock])
  have HO2 := Lib.hid hown2
  have q0 := cell_alloc p0
  clear hbox hbox2 hW hb2 hrep hown2 p1
  go_wp2_with (at_builtin; refine wpList_append_own_at _ rfl _ _ 29 rfl B0 9 i0 (.string ⟨#[]⟩) 1 16 Tryz.underlying29 hi0 hz0 hz1 hz2 rfl (Nat.succ_pos 0) (.slice (some ⟨g, 0, none⟩) l.length c) l.length (sv_ l) rfl (HO2.out.alloc _) ⟨w2.heap.size, 0, none⟩ 1 1 [.string ⟨s.toArray⟩] rfl rfl (cell_one_new _ _ _) ?_ ?_ ?_ ?_ ?_)
  · intro u hu
    simp at hu; subst hu; rfl
  · unfold maxLen; omega
  · omega
  · simp; omega
  · intro v' w3 hown3 hgrow3 _ hat3
    obtain ⟨A3, c3, rfl⟩ := own_shape hown3
    obtain ⟨g3, rfl, -⟩ := own_cells hown3 (Nat.succ_pos _)
    have hg3 : g3 = g ∨ w.heap.size ≤ g3 := by
      rcases hat3 with e | e
      · simp [Value.ownBlock] at e; exact .inl e
      · simp [Value.ownBlock] at e; exact .inr (by omega)
    have hgr : w.grownBy w3 (some g) := (below_grownAt (hbb.out.alloc hbb.out.size _) g).trans hgrow3
    rw [← HSV.out.1] at hown3
    have H3 := Lib.hid hown3
    have HG3 := Lib.hid hgr
    have HAT := Lib.hid hg3
    clear hown3 hgrow3 hat3 hgr hg3
    go_wp2_with fail
    go_ret
    refine ⟨HG3.out, g3, c3, by rw [HSV.out.2]; rfl, ?_, HAT.out⟩
    rw [HSV.out.2]
    exact H3.out

theorem repSF_appF {F : Nat → Prop} {w : World} {t : Term} {l : List Term} {v : Value} (h : RepSF F w (ofTerm (.app t l)) v) :
    ∃ b c y0 x1 y1 g d ys, v = .agg #[st [], .slice (some ⟨b, 0, none⟩) 3 c] ∧ 3 ≤ c ∧ c ≤ maxLen ∧ w.cell? ⟨b, 0, none⟩ = some (st sApp) ∧ w.cell? ⟨b, 1, none⟩ = some y0 ∧
      w.cell? ⟨b, 2, none⟩ = some x1 ∧ w.cell? ⟨b, 3, none⟩ = some y1 ∧ RepSF F w (ofTerm t) (.agg #[x1, y1]) ∧
      w.cell? ⟨b, 4, none⟩ = some (st []) ∧ w.cell? ⟨b, 5, none⟩ = some (.slice (some ⟨g, 0, none⟩) (l.length + 1) d) ∧ l.length + 1 ≤ d ∧ d ≤ maxLen ∧
      Cells w g ys ∧ RepFF F w (.atom sM :: ofTerms l) ys ∧ F b ∧ F g := by
  rw [ofTerm, RepSF] at h
  obtain ⟨b, c, xs, rfl, h1, h2, hc, hf, hFb, _⟩ := h
  obtain ⟨x0, y0, r, rfl, ha, hf⟩ := repFF_cons hf
  obtain ⟨x1, y1, r, rfl, ht, hf⟩ := repFF_cons hf
  obtain ⟨x2, y2, r, rfl, hb, hf⟩ := repFF_cons hf
  obtain ⟨rfl, rfl⟩ := repS_atom (RepSF.rep _ _ ha)
  rw [RepSF] at hb
  obtain ⟨g, d, ys, e, h3, h4, h5, h6, hFg, _⟩ := hb
  simp only [Value.agg.injEq, Array.mk.injEq, List.cons.injEq, and_true] at e
  obtain ⟨rfl, rfl⟩ := e
  have hl : (ofTerms l).length = l.length := ofTerms_length l
  simp only [List.length_cons, hl] at h3
  refine ⟨b, c, _, x1, y1, g, d, ys, rfl, h1, h2, hc 0 _ rfl, hc 1 _ rfl, hc 2 _ rfl, hc 3 _ rfl, ht, hc 4 _ rfl, ?_, h3, h4, h5, h6, hFb, hFg⟩
  rw [hc 5 _ rfl]
  simp [hl]

/-- What holds at the head of l1Atoms' loop. -/
def AtomsRel (B0 : Nat) (w : World) (g : Nat) (b : List Term) (LL : Nat → List B) (j : Nat) (lv : Value) (wr : World) : Prop :=
  j ≤ b.length ∧ w.grownBy wr (some g) ∧ ∃ g' c, lv = .slice (some ⟨g', 0, none⟩) (LL j).length c ∧ wr.ownsRow B0 9 1 lv (LL j).length (sv_ (LL j)) ∧ (g' = g ∨ w.heap.size ≤ g')

set_option maxHeartbeats 3200000 in
set_option maxRecDepth 100000 in
theorem l1Atoms_any (B0 n : Nat) : ∀ (t : Term) (v : Value) (l : List B) (g c : Nat) (w : World), size t ≤ n → l.length + size t ≤ 100000 → B0 ≤ w.heap.size → RepSF (fun k => k < B0) w (ofTerm t) v → w.ownsRow B0 9 1 (.slice (some ⟨g, 0, none⟩) l.length c) l.length (sv_ l) →
    Calls Tryz.prog 76 #[v, .slice (some ⟨g, 0, none⟩) l.length c] w (AtomsPost B0 w g (l ++ atoms t)) := by
  induction n with
  | zero => intro t v l g c w h; have := size_pos t; omega
  | succ n ih =>
    intro t v l g c w hn hl hB hr hown
    cases t with
    | nm s =>
      rw [ofTerm, RepSF] at hr
      subst hr
      exact l1Atoms_atom B0 s l g c w (by omega) hB hown
    | ix i =>
      rw [ofTerm, RepSF] at hr
      subst hr
      exact l1Atoms_atom B0 (dec i) l g c w (by omega) hB hown
    | lam t =>
      rw [Rt.size] at hn hl
      rw [show atoms (.lam t) = atoms t from rfl]
      obtain ⟨lr, hlr⟩ : ∃ lr, lr = l ++ atoms t := ⟨_, rfl⟩
      have HLR := Lib.hid hlr
      rw [← hlr]
      clear hlr
      have HR := Lib.hid (RepSF.rep _ _ hr)
      obtain ⟨b, cc, y0, x1, y1, rfl, h1, h2, c0, c1, c2, c3, ht⟩ := repSF_lam hr
      have C2 := Lib.hid c2
      have C3 := Lib.hid c3
      have HT := Lib.hid ht
      have IH := Lib.hid ih
      have HOWN := Lib.hid hown
      clear c0 c1 c2 c3 ht hr ih hown
      unfold maxLen at h2
      rw [st_eq] at HR ⊢
      go_enter Tryz.func76, Tryz.ntmps76
      go_wp2_with fail
      have hbox := Blk.new w 55 #[.string ⟨#[]⟩, .slice (some ⟨b, 0, none⟩) 2 cc]
      have hW := below_one w (.cells #[.string ⟨#[]⟩, .slice (some ⟨b, 0, none⟩) 2 cc] 55)
      generalize w.alloc (.cells #[.string ⟨#[]⟩, .slice (some ⟨b, 0, none⟩) 2 cc] 55) = W at *
      have hKW := below_keeps hW
      refine (l1Head_any _ _ _ (HR.out.keep hKW)).mono ?_
      rintro e w2 ⟨rfl, hb2⟩
      rw [st_eq, show headT (ofTerm (.lam t)) = [108, 97, 109] from rfl]
      have hK2 := hKW.trans (below_keeps hb2)
      have hbox2 := hbox.below hb2 hbox.lt
      have hbb := Lib.hid (hW.trans (hb2.mono hW.size))
      have hsz : w.heap.size + 1 ≤ w2.heap.size := hbox2.lt
      obtain ⟨p0, p1, _, _⟩ := blk_cells hbox2
      have c2 := hK2 _ _ C2.out
      have c3 := hK2 _ _ C3.out
      have hown2 : w2.ownsRow B0 9 1 (.slice (some ⟨g, 0, none⟩) l.length c) l.length (sv_ l) := HOWN.out.kept (row := none) ⟨hbb.out.os, hbb.out.tape, hbb.out.output, hbb.out.size, fun q hq _ => hbb.out.block q hq⟩ (by simp [Value.ownBlock])
      have HC := Lib.hid (IH.out t (.agg #[x1, y1]) l g c w2 (by omega) (by omega) (by omega) (RepSF.move (fun k hk hk2 => hbb.out.block k hk2) (fun k hk _ => hk) _ _ HT.out) hown2)
      rw [← HLR.out] at HC
      clear hbox hbox2 hW hb2 hown2 hKW hK2
      go_wp2_with (go_at_call 76; refine HC.out.mono ?_; rintro e w3 ⟨hg3, g3, c3', rfl, hown3, hat3⟩; have HG3 := Lib.hid hg3; have H3 := Lib.hid hown3; have HAT := Lib.hid hat3; clear hg3 hown3 hat3)
      go_ret
      exact ⟨(below_grownAt hbb.out g).trans HG3.out, g3, c3', rfl, H3.out, HAT.out.imp id (fun h => Nat.le_trans (by omega) h)⟩
    | app t bg =>
      rw [Rt.size] at hn hl
      obtain ⟨LL, l0, l1, l2, l3⟩ : ∃ LL : Nat → List B, LL 0 = l ++ atoms t ∧ (∀ j u, bg[j]? = some u → LL (j + 1) = LL j ++ atoms u) ∧ LL bg.length = l ++ atoms (.app t bg) ∧ (∀ j, (LL j).length ≤ l.length + size t + sizes (bg.take j)) := by
        refine ⟨fun j => l ++ atoms t ++ atomsL (bg.take j), by simp [atomsL], fun j u hu => by simp only [atomsL_snoc bg j u hu, List.append_assoc], by simp only [List.take_of_length_le (Nat.le_refl _)]; rw [atoms, List.append_assoc], fun j => ?_⟩
        have h1 := atoms_len t
        have h2 := atomsL_len (bg.take j)
        simp only [List.length_append]; omega
      rw [← l2]
      have L0 := Lib.hid l0
      have L1 := Lib.hid l1
      have L3 := Lib.hid l3
      clear l0 l1 l2 l3
      have HR := Lib.hid (RepSF.rep _ _ hr)
      obtain ⟨b, cc, y0, x1, y1, gb, db, ys, rfl, h1, h2, c0, c1, c2, c3, ht, c4, c5, h3, h4, hc, hf, fb, fg⟩ := repSF_appF hr
      have hfb : b < B0 := fb
      have hfg : gb < B0 := fg
      have C4 := Lib.hid c4
      have C2 := Lib.hid c2
      have C3 := Lib.hid c3
      have C5 := Lib.hid c5
      have HC := Lib.hid hc
      have HT := Lib.hid ht
      have HF := Lib.hid hf
      have IH := Lib.hid ih
      have HOWN := Lib.hid hown
      have hbl := bag_short bg
      have hat := atoms_len t
      clear c0 c1 c2 c3 c4 c5 ht hc hf hr ih hown
      unfold maxLen at h2 h4
      rw [st_eq] at HR ⊢
      go_enter Tryz.func76, Tryz.ntmps76
      go_wp2_with fail
      have hbox := Blk.new w 55 #[.string ⟨#[]⟩, .slice (some ⟨b, 0, none⟩) 3 cc]
      have hW := below_one w (.cells #[.string ⟨#[]⟩, .slice (some ⟨b, 0, none⟩) 3 cc] 55)
      generalize w.alloc (.cells #[.string ⟨#[]⟩, .slice (some ⟨b, 0, none⟩) 3 cc] 55) = W at *
      have hKW := below_keeps hW
      refine (l1Head_any _ _ _ (HR.out.keep hKW)).mono ?_
      rintro e w2 ⟨rfl, hb2⟩
      rw [st_eq, show headT (ofTerm (.app t bg)) = [97, 112, 112] from rfl]
      have hK2 := hKW.trans (below_keeps hb2)
      have hbox2 := hbox.below hb2 hbox.lt
      have hbb := Lib.hid (hW.trans (hb2.mono hW.size))
      have hsz : w.heap.size + 1 ≤ w2.heap.size := hbox2.lt
      obtain ⟨p0, p1, _, _⟩ := blk_cells hbox2
      have c2 := hK2 _ _ C2.out
      have c3 := hK2 _ _ C3.out
      have hown2 : w2.ownsRow B0 9 1 (.slice (some ⟨g, 0, none⟩) l.length c) l.length (sv_ l) := HOWN.out.kept (row := none) ⟨hbb.out.os, hbb.out.tape, hbb.out.output, hbb.out.size, fun q hq _ => hbb.out.block q hq⟩ (by simp [Value.ownBlock])
      have HCC := Lib.hid (IH.out t (.agg #[x1, y1]) l g c w2 (by omega) (by omega) (by omega) (RepSF.move (fun k hk hk2 => hbb.out.block k hk2) (fun k hk _ => hk) _ _ HT.out) hown2)
      rw [← L0.out] at HCC
      have hgB := (own_block_lt hown2 g rfl).1
      have hgw := (own_block_lt HOWN.out g rfl).2
      have hbg : b ≠ g := by omega
      have hgbg : gb ≠ g := by omega
      have C4' := Lib.hid (hK2 _ _ C4.out)
      have C5' := Lib.hid (hK2 _ _ C5.out)
      have P1 := Lib.hid p1
      have HBB2 := Lib.hid hbox2
      clear hbox hW hb2 hown2 hKW hK2 hbox2
      go_wp2_with (go_at_call 76; refine HCC.out.mono ?_; rintro e w3 ⟨hg3, g3, c3', rfl, hown3, hat3⟩; have HG3 := Lib.hid ((below_grownAt hbb.out g).trans hg3); have H3 := Lib.hid hown3; have HAT := Lib.hid (show g3 = g ∨ w.heap.size ≤ g3 from hat3.imp id (fun h => Nat.le_trans (by omega) h)); have p1r := grown_cell hg3 (by omega) P1.out; have c4r := grown_cell hg3 hbg C4'.out; have c5r := grown_cell hg3 hbg C5'.out; clear hg3 hown3 hat3)
      go_loopw [1, 6] (fun lv iv wr => ∃ j : Nat, iv = .int .i64 (((j : Nat) : Int) + 1) ∧ (∃ g' c', lv = .slice (some ⟨g', 0, none⟩) (LL j).length c') ∧ Hid (AtomsRel B0 w g bg LL j lv wr)) (fun _ iv _ => bg.length + 1 - (intOf iv).toNat)
      case atStart => exact ⟨0, rfl, ⟨g3, c3', rfl⟩, Nat.zero_le _, HG3.out, g3, c3', rfl, H3.out, HAT.out⟩
      case round =>
        obtain ⟨j, rfl, ⟨g', c', rfl⟩, hrel⟩ := hrel
        have hj := hrel.out.1
        by_cases hlt : j < bg.length
        · obtain ⟨u, hu⟩ : ∃ u, bg[j]? = some u := ⟨_, List.getElem?_eq_getElem hlt⟩
          obtain ⟨x, y, e1, e2, hrt⟩ := RepFF.at _ ys (j + 1) (ofTerm u) HF.out (by rw [List.getElem?_cons_succ]; exact ofTerms_at bg j u hu)
          obtain ⟨-, hgr, g4, c4', e4, hown4, hat4⟩ := hrel.out
          simp only [Value.slice.injEq, Option.some.injEq, Addr.mk.injEq] at e4
          obtain ⟨⟨rfl, -⟩, -, rfl⟩ := e4
          have d1 : wr.cell? ⟨gb, (j + 1) * 2, none⟩ = some x := grown_cell hgr hgbg (HC.out ((j + 1) * 2) x e1)
          have d2 : wr.cell? ⟨gb, (j + 1) * 2 + 1, none⟩ = some y := grown_cell hgr hgbg (HC.out ((j + 1) * 2 + 1) y e2)
          have hsj := sizes_le bg (j + 1)
          rw [sizes_take bg j u hu] at hsj
          have hal := L3.out j
          have hru : RepSF (fun k => k < B0) wr (ofTerm u) (.agg #[x, y]) := RepSF.move (fun k hk hk2 => hgr.block k hk2 (by intro e; injection e with e; have : k < B0 := hk; omega)) (fun k hk _ => hk) _ _ hrt
          have hsr := hgr.size
          have HCU := Lib.hid (IH.out u (.agg #[x, y]) (LL j) g' c' wr (by omega) (by omega) (by omega) hru hown4)
          rw [← L1.out j u hu] at HCU
          have HGR := Lib.hid hgr
          have HAT4 := Lib.hid hat4
          clear e1 e2 hrt hgr hown4 hat4 hru hu
          go_wp2_with (go_at_call 76; refine HCU.out.mono ?_; rintro e w5 ⟨hg5, g5, c5', rfl, hown5, hat5⟩; have HREL5 : Hid (AtomsRel B0 w g bg LL (j + 1) (.slice (some ⟨g5, 0, none⟩) (LL (j + 1)).length c5') w5) := ⟨hlt, grown_next HGR.out HAT4.out hg5, g5, c5', rfl, hown5, by rcases hat5 with h | h; (· rw [h]; exact HAT4.out); (· exact .inr (by omega))⟩; clear hg5 hown5 hat5)
          go_roundw
          case rel => exact ⟨j + 1, by go_num, ⟨g5, c5', rfl⟩, HREL5.out⟩
          case measure => simp [intOf]; omega
        · obtain rfl : j = bg.length := by omega
          have hq := hrel.out
          have HQQ := Lib.hid hq
          clear hq
          go_wp2_with fail
          go_ret
          obtain ⟨-, hgr, g4, c4', e4, hown4, hat4⟩ := HQQ.out
          exact ⟨hgr, g4, c4', by rw [e4]; rfl, by rw [← e4]; exact hown4, hat4⟩

end Go.Proofs.YtomaknmemhpghaaGreatDoor
