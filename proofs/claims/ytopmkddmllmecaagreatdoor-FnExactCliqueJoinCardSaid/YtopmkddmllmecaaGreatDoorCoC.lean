/- The model's l5Bags: the terms of two bags. -/
import Derived.Test.YtopmkddmllmecaaGreatDoorCoA
import Derived.Test.YtopmkddmllmecaaGreatDoorSpecM
import Derived.Test.YtopmkddmllmecaaGreatDoorSpecI
import Derived.Deep.RegionHeld3
import Derived.Deep.DeepCutAuto
import Derived.Handy
set_option linter.unusedSimpArgs false
set_option linter.unusedVariables false
namespace Go.Proofs.YtopmkddmllmecaaGreatDoor
open Go.RowKit Rt Go.Lib

/-- A row of trees. -/
def TRow (w : World) (v : Value) (l : List Term) (xs : List Value) : Prop :=
  (∃ A c, v = .slice A l.length c ∧ (0 < l.length → ∃ g, A = some ⟨g, 0, none⟩ ∧ Cells w g xs)) ∧ RepF w (ofTerms l) xs

theorem TRow.keep {w w' : World} (h : Keeps w w') {v : Value} {l : List Term} {xs : List Value} (e : TRow w v l xs) : TRow w' v l xs := by
  obtain ⟨⟨A, c, h1, h2⟩, h3⟩ := e
  refine ⟨⟨A, c, h1, fun hn => ?_⟩, RepF.keep h _ _ h3⟩
  obtain ⟨g, h4, h5⟩ := h2 hn
  exact ⟨g, h4, h5.keep h⟩

/-- Rows of trees that the model hands back. -/
def RowsPost (w : World) (l : List Term) (e : Ending) (w' : World) : Prop :=
  Below w.heap.size w w' ∧ ∃ v xs, e = .returned v ∧ TRow w' v l xs

theorem trow_own {w : World} {B n c : Nat} {A : Option Addr} {l : List Term} {xs : List Value} (h : w.ownsRow B 84 2 (.slice A n c) n xs) (hn : n = l.length) (hr : RepF w (ofTerms l) xs) : TRow w (.slice A n c) l xs := by
  subst hn
  refine ⟨⟨A, c, rfl, fun h0 => ?_⟩, hr⟩
  obtain ⟨g, rfl, q1, q2, q3, q4, q5⟩ := own_cells h h0
  exact ⟨g, rfl, q5⟩

theorem ofTerms_append (a b : List Term) : ofTerms (a ++ b) = ofTerms a ++ ofTerms b := by
  induction a with
  | nil => simp [ofTerms]
  | cons t a ih => simp [ofTerms, ih]

theorem slice_tail (g d n : Nat) (hd : n + 1 ≤ d) : ∃ ad : Addr, (∀ wx, Sem.run Tryz.prog (Instr.slice 82 (.slice (some ⟨g, 0, none⟩) (n + 1) d) (some (.int .i64 1)) none none) wx = .ok (.slice (some ad) n (d - 1)) wx) ∧ ad.block = g ∧ (n ≠ 0 → ad = ⟨g, 2, none⟩) := by
  have hu : Tryz.prog.underlying 82 = some (.slice (Tryz.prog.elem 82)) := by kernel_rfl
  have hs : ∀ wx, Sem.run Tryz.prog (sizeOf (Tryz.prog.elem 82)) wx = .ok 2 wx := fun wx => by kernel_rfl
  by_cases h1 : d = 1
  · refine ⟨⟨g, 0, none⟩, fun wx => ?_, rfl, fun h => by omega⟩
    rw [run_slice_l wx _ _ _ _ hu .i64 1 (by omega) (by omega), hs]
    simp [sliced, h1, Result.andThen]
  · refine ⟨⟨g, 2, none⟩, fun wx => ?_, rfl, fun h => rfl⟩
    rw [run_slice_l wx _ _ _ _ hu .i64 1 (by omega) (by omega), hs]
    simp [sliced, h1, Result.andThen, Addr.add_lit]

set_option maxHeartbeats 1600000 in
set_option maxRecDepth 100000 in
theorem l5Bags_any (t0 t1 : Term) (l0 l1 : List Term) (va vb : Value) (w : World) (hl0 : l0.length ≤ 10000) (hl1 : l1.length ≤ 10000) (hr0 : RepS w (ofTerm (.app t0 l0)) va) (hr1 : RepS w (ofTerm (.app t1 l1)) vb) :
    Calls Tryz.prog 91 #[va, vb] w (RowsPost w (l0 ++ l1)) := by
  obtain ⟨b0, c0, y0, x01, y01, g0, d0, ys0, rfl, h01, h02, -, -, -, -, -, p04, p05, h03, h04, hc0, hf0⟩ := repS_app hr0
  obtain ⟨b1, c1, y1, x11, y11, g1, d1, ys1, rfl, h11, h12, -, -, -, -, -, p14, p15, h13, h14, hc1, hf1⟩ := repS_app hr1
  obtain ⟨i0, hi0, hz0, hz1, hz2⟩ := info_parts tree_info
  obtain ⟨m0, n0, zs0, rfl, hm0, hq0⟩ := repF_cons hf0
  obtain ⟨m1, n1, zs1, rfl, hm1, hq1⟩ := repF_cons hf1
  have hlen0 := RepF.length _ _ hq0
  have hlen1 := RepF.length _ _ hq1
  rw [ofTerms_length] at hlen0 hlen1
  have HO0 : Hid (∀ u ∈ zs0, u.oneCell' = true) := repF_one _ _ hq0
  have HO1 : Hid (∀ u ∈ zs1, u.oneCell' = true) := repF_one _ _ hq1
  have HF0 := Lib.hid hq0
  have HF1 := Lib.hid hq1
  have HC0 : Hid (∀ j u, zs0[j]? = some u → w.cell? ⟨g0, 2 + j, none⟩ = some u) := fun j u hu => hc0 (2 + j) u (by rw [show 2 + j = j + 1 + 1 by omega]; simpa using hu)
  have HC1 : Hid (∀ j u, zs1[j]? = some u → w.cell? ⟨g1, 2 + j, none⟩ = some u) := fun j u hu => hc1 (2 + j) u (by rw [show 2 + j = j + 1 + 1 by omega]; simpa using hu)
  have HL0 := Lib.hid hlen0
  have HL1 := Lib.hid hlen1
  have P05 := Lib.hid p05
  have P15 := Lib.hid p15
  unfold maxLen at h02 h12 h04 h14
  clear hr0 hr1 hf0 hf1 hq0 hq1 hc0 hc1 hlen0 hlen1 hm0 hm1 p04 p14 p05 p15
  rw [st_eq]
  go_enter Tryz.func91, Tryz.ntmps91
  go_upto_region 1 with fail
  have hW := below_two w (.cells #[.string ⟨#[]⟩, .slice (some ⟨b0, 0, none⟩) 3 c0] 84) (.cells #[.string ⟨#[]⟩, .slice (some ⟨b1, 0, none⟩) 3 c1] 84)
  have hx0 := Blk.alloc (Blk.new w 84 #[.string ⟨#[]⟩, .slice (some ⟨b0, 0, none⟩) 3 c0]) (.cells #[.string ⟨#[]⟩, .slice (some ⟨b1, 0, none⟩) 3 c1] 84)
  have hx1 := Blk.new (w.alloc (.cells #[.string ⟨#[]⟩, .slice (some ⟨b0, 0, none⟩) 3 c0] 84)) 84 #[.string ⟨#[]⟩, .slice (some ⟨b1, 0, none⟩) 3 c1]
  rw [show (w.alloc (.cells #[.string ⟨#[]⟩, .slice (some ⟨b0, 0, none⟩) 3 c0] 84)).heap.size = w.heap.size + 1 by simp] at hx1
  generalize (w.alloc (.cells #[.string ⟨#[]⟩, .slice (some ⟨b0, 0, none⟩) 3 c0] 84)).alloc (.cells #[.string ⟨#[]⟩, .slice (some ⟨b1, 0, none⟩) 3 c1] 84) = W at *
  have q0 := (blk_cells hx0).2.1
  have hsz : w.heap.size + 2 ≤ W.heap.size := hx1.lt
  have HB := Lib.hid hW
  have HX1 := Lib.hid hx1
  have q05 := cell_alloc (below_keeps hW _ _ P05.out)
  have q0' := cell_alloc q0
  clear hx0 hx1 hW
  obtain ⟨ad0, hsl0, hadb0, had0⟩ := slice_tail g0 d0 l0.length h03
  obtain ⟨ad1, hsl1, hadb1, had1⟩ := slice_tail g1 d1 l1.length h13
  have HAD0 : Hid (∀ V, Keeps w V → ∀ j u, zs0[j]? = some u → V.cell? (ad0.add j) = some u) := fun V hV j u hu => by
    have : l0.length ≠ 0 := by have := (List.getElem?_eq_some_iff.1 hu).1; have := HL0.out; omega
    rw [had0 this, Addr.add_lit]; exact hV _ _ (HC0.out j u hu)
  have HAD1 : Hid (∀ V, Keeps w V → ∀ j u, zs1[j]? = some u → V.cell? (ad1.add j) = some u) := fun V hV j u hu => by
    have : l1.length ≠ 0 := by have := (List.getElem?_eq_some_iff.1 hu).1; have := HL1.out; omega
    rw [had1 this, Addr.add_lit]; exact hV _ _ (HC1.out j u hu)
  clear had0 had1 hadb0 hadb1
  have hx3 := Lib.hid (HX1.out.alloc (.cells #[] 84))
  go_wp2_with (at_builtin; refine wpList_append_own_at _ rfl _ _ 82 rfl W.heap.size 84 i0 (.agg #[.string ⟨#[]⟩, .slice none 0 0]) 2 40 Tryz.underlying82 hi0 hz0 hz1 hz2 rfl (Nat.succ_pos 1) (.slice (some ⟨W.heap.size, 0, none⟩) 0 0) 0 [] rfl ?_ ad0 l0.length (d0 - 1) zs0 rfl HL0.out ?_ HO0.out ?_ ?_ ?_ ?_)
  · exact own_new W 84 #[] 0 2 W.heap.size (Nat.le_refl _) rfl (by decide)
  · exact HAD0.out _ ((below_keeps HB.out).trans (below_keeps (below_one W _)))
  · unfold maxLen; omega
  · omega
  · simp
  · intro v' w3 hown3 hgrow3 _ hat3
    obtain ⟨A3, c3, rfl⟩ := own_shape hown3
    have hown3 : w3.ownsRow W.heap.size 84 2 (.slice A3 l0.length c3) l0.length zs0 := by simpa using hown3
    have HB3 : Hid (Below w.heap.size w w3) := HB.out.trans (Below.grown (below_one W _) hgrow3 (by simp) (fun k hk => by simp [Value.ownBlock] at hk; omega) |>.mono (by omega))
    have hW3 : W.heap.size + 1 ≤ w3.heap.size := by have := hgrow3.size; simpa using this
    have hx4 := hx3.out.grown hgrow3 (by simp [Value.ownBlock]; omega)
    have q1 := (blk_cells hx4).2.1
    have q15 := below_keeps HB3.out _ _ P15.out
    have HO3 := Lib.hid hown3
    have HAT3 := Lib.hid hat3
    clear hown3 hgrow3 hat3 hx4 q05 q0 q0'
    go_wp2_with (at_builtin; refine wpList_append_own_at _ rfl _ _ 82 rfl W.heap.size 84 i0 (.agg #[.string ⟨#[]⟩, .slice none 0 0]) 2 40 Tryz.underlying82 hi0 hz0 hz1 hz2 rfl (Nat.succ_pos 1) (.slice A3 l0.length c3) l0.length zs0 rfl HO3.out ad1 l1.length (d1 - 1) zs1 rfl HL1.out ?_ HO1.out ?_ ?_ ?_ ?_)
    · exact HAD1.out _ (below_keeps HB3.out)
    · unfold maxLen; omega
    · omega
    · omega
    · intro v' w4 hown4 hgrow4 _ hat4
      obtain ⟨A4, c4, rfl⟩ := own_shape hown4
      have HB4 : Hid (Below w.heap.size w w4) := Below.grown HB3.out hgrow4 (by omega) (fun k hk => by have := (own_block_lt HO3.out k hk).1; omega)
      have HO4 := Lib.hid hown4
      clear hown4 hgrow4 hat4
      go_wp2_with fail
      go_ret
      refine ⟨HB4.out, _, _, rfl, trow_own HO4.out (by simp) ?_⟩
      rw [ofTerms_append]
      exact RepF.append _ _ _ _ (RepF.keep (below_keeps HB4.out) _ _ HF0.out) (RepF.keep (below_keeps HB4.out) _ _ HF1.out)

end Go.Proofs.YtopmkddmllmecaaGreatDoor
