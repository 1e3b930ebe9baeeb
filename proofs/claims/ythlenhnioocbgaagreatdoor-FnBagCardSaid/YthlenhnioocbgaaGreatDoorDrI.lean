/- The draws of the laws: l91List, DrawBagSort. -/
import Derived.Test.YthlenhnioocbgaaGreatDoorFnC
import Derived.Test.YthlenhnioocbgaaGreatDoorNmA
namespace Go.Proofs.YthlenhnioocbgaaGreatDoor
open Go.RowKit Rt

theorem rd_again {w w2 : World} {r n c p q : Nat} {A : Option Addr} (h : Rd w r A n c p) (hg : w.grownBy w2 (some r)) (hb : Blk w2 r 88 #[.slice A n c, .int .i64 q]) : Rd w2 r A n c q :=
  ⟨hb, h.le, fun j hj => by
    obtain ⟨g, o, x, e, h1, h2, h3, h4⟩ := h.bytes j hj
    exact ⟨g, o, x, e, h1, Nat.lt_of_lt_of_le h2 hg.size, cell_grown hg h1 h3, h4⟩⟩

theorem grown_far {w w1 w2 : World} {r g : Nat} (h1 : w.grownBy w1 (some r)) (h2 : w1.grownBy w2 (some g)) (hg : w.heap.size ≤ g) : w.grownBy w2 (some r) :=
  ⟨h2.os.trans h1.os, h2.tape.trans h1.tape, h2.output.trans h1.output, Nat.le_trans h1.size h2.size, fun k hk hne => (h2.block k (Nat.lt_of_lt_of_le hk h1.size) (by intro e; injection e with e; omega)).trans (h1.block k hk hne)⟩

theorem own_far {w w' : World} {B g c r : Nat} {l : List Rt.B} (h : OwnT w B g c l) (hg : w.grownBy w' (some r)) (hne : g ≠ r) : OwnT w' B g c l :=
  World.ownsRow.kept h hg (.inr (by simp [Value.ownBlock]; exact hne))

theorem own_texts {w : World} {B g c : Nat} {l : List Rt.B} (h : OwnT w B g c l) : Texts w (some ⟨g, 0, none⟩) (bys l) := by
  have h' : w.ownsRow B 9 1 (.slice (some ⟨g, 0, none⟩) (bys l).length c) (bys l).length (strv (bys l)) := by rw [bys_len, strv_bys]; exact h
  exact Texts.own h'

theorem bys_rev (l : List Rt.B) : (bys l).reverse = bys l.reverse := by simp [bys]

/-- What a draw of texts does. -/
def ListPost (w : World) (r : Nat) (A : Option Addr) (n c : Nat) (e : Ending) (w' : World) : Prop :=
  ∃ (g cc q : Nat) (l : List B), e = .returned (.slice (some ⟨g, 0, none⟩) l.length cc) ∧ l.length ≤ 10 ∧ (∀ x ∈ l, x.length ≤ 4000) ∧ w.grownBy w' (some r) ∧ Rd w' r A n c q ∧ OwnT w' w.heap.size g cc l

/-- What holds at the head of l91List's loop. -/
structure LsRel (w : World) (r : Nat) (A : Option Addr) (n c : Nat) (wr : World) (g cc q : Nat) (l : List B) : Prop where
  short : ∀ x ∈ l, x.length ≤ 4000
  grown : w.grownBy wr (some r)
  rd : Rd wr r A n c q
  own : OwnT wr w.heap.size g cc l

theorem LsRel.lt {w wr : World} {r n c g cc q : Nat} {A : Option Addr} {l : List B} (h : LsRel w r A n c wr g cc q l) : w.heap.size ≤ g ∧ g < wr.heap.size := own_block_lt h.own g rfl

/-- One text more. -/
theorem LsRel.more {w wr w1 w2 : World} {r n c p g cc q q1 g2 c2 : Nat} {A : Option Addr} {l : List B} {x : B} (h : LsRel w r A n c wr g cc q l) (h0 : Rd w r A n c p) (hr : r < w.heap.size)
    (h1 : wr.grownBy w1 (some r)) (hr1 : Rd w1 r A n c q1) (h2 : w1.grownBy w2 (some g)) (hx : x.length ≤ 4000)
    (hown : w2.ownsRow w.heap.size 9 1 (.slice (some ⟨g2, 0, none⟩) (l.length + 1) c2) (l.length + 1) (sv_ l ++ [.string ⟨x.toArray⟩])) : LsRel w r A n c w2 g2 c2 q1 (l ++ [x]) := by
  have hgw := grown_far (grown_trans h.grown h1) h2 h.lt.1
  refine ⟨?_, hgw, ?_, ?_⟩
  · intro y hy
    rcases List.mem_append.1 hy with hy | hy
    · exact h.short y hy
    · simp at hy; subst hy; exact hx
  · refine rd_again h0 hgw ?_
    exact hr1.blk.grown h2 (by intro e; injection e with e; have := h.lt.1; omega)
  · unfold OwnT
    rw [sv_append, List.length_append]
    exact hown

theorem sv_set (l : List B) (s : B) : (sv_ l).set 0 (.string ⟨s.toArray⟩) = sv_ (l.set 0 s) := by
  cases l <;> simp [sv_]

theorem own_len2 {w : World} {B g c j : Nat} {l : List Rt.B} (h : l.length = j) (ho : OwnT w B g c l) : w.ownsRow B 9 1 (.slice (some ⟨g, 0, none⟩) j c) j (sv_ l) := by
  subst h; exact ho

theorem len_snoc {l : List Rt.B} {j : Nat} (h : l.length = j) (x : Rt.B) : (l ++ [x]).length = j + 1 := by simp [h]

theorem text_short (t : Term) (ho : ok 0 t = true) (hs : size t ≤ 5) : (text (sort t)).length ≤ 4000 := by
  have := text_size 0 t ho
  rw [text_sort_len]; omega

set_option maxHeartbeats 6400000 in
set_option maxRecDepth 100000 in
theorem l91List_any (hBag : BagSaid) (r : Nat) (A : Option Addr) (n c p most : Nat) (w : World) (hR : Rd w r A n c p) (hp : p ≤ 300000) (hm : most ≤ 9) :
    Calls Tryz.prog 69 #[.pointer (some ⟨r, 0, none⟩), .int .i64 most] w (ListPost w r A n c) := by
  obtain ⟨i0, hi0, hz0, hz1, hz2⟩ := info_parts text_info
  have HPK : Hid (∀ W P, Rd W r A n c P → P ≤ 400000 → Calls Tryz.prog 43 #[.pointer (some ⟨r, 0, none⟩), .int .i64 ((most : Int) + 1)] W (PickPost W r A n c P (most + 1))) := fun W P h1 h2 => pick_any r A n c P (most + 1) W (by omega) (by omega) h1
  have HI : Hid (∀ W P (k : Nat), k ≤ 1 → Rd W r A n c P → P ≤ 800000 → Calls Tryz.prog 45 #[.pointer (some ⟨r, 0, none⟩), .int .i64 0, .int .i64 k] W (DrawnTerm W r A n c P 80 5 0)) :=
    fun W P k hk h1 h2 => looseT 1 r A n c P 0 (k : Int) W h1 (by show P + 80 ≤ _; omega) (by show 80 ≤ 10000; omega) (by show 5 ≤ 10000; omega) (by omega) (by omega) (by omega)
  have HS : Hid (∀ (t : Term), ok 0 t = true → size t ≤ 5 → ∀ W, Calls Tryz.prog 14 #[.string ⟨(text t).toArray⟩] W fun e w' => e = .returned (.tuple #[.string ⟨(text (sort t)).toArray⟩, .bool true]) ∧ Below W.heap.size W w') := fun t ho hs W => by
    have h := specTermSort hBag ⟨(text t).toArray⟩ (by have := text_size 0 t ho; simp [ByteArray.size, maxLen]; omega) W
    rw [show (⟨(text t).toArray⟩ : ByteArray).data.toList = text t from rfl, (sortRes_text t ho (by omega)).1, st_eq] at h
    exact h
  have HOD : Hid (∀ W P, Rd W r A n c P → P ≤ 400000 → Calls Tryz.prog 44 #[.pointer (some ⟨r, 0, none⟩)] W (DrawnPost W r A n c P 4001 4000)) := fun W P h1 h2 => l91Odd_any hBag r A n c P W h1 h2
  have hrw : r < w.heap.size := hR.blk.lt
  have HR0 := Lib.hid hR
  obtain ⟨W1, hW1⟩ : ∃ W1, W1 = w.alloc (.cells #[] 9) := ⟨_, rfl⟩
  have hb1 : Below w.heap.size w W1 := by rw [hW1]; exact (Below.refl _ _).alloc (Nat.le_refl _) _
  have HR1 := Lib.hid (hR.grown hb1)
  have HG1 := Lib.hid (below_at hb1 r)
  have HO1 : Hid (OwnT W1 w.heap.size w.heap.size 0 []) := by
    show OwnT _ _ _ _ _
    rw [hW1]
    exact own_new w 9 #[] 0 1 w.heap.size (Nat.le_refl _) rfl (by decide)
  clear hR hb1
  go_enter Tryz.func69, Tryz.ntmps69
  go_wp2_with fail
  rw [← hW1]
  refine (HPK.out W1 p HR1.out (by omega)).mono ?_
  rintro e w2 ⟨k, rfl, hk, hg2, hr2⟩
  have HREL2 : Hid (LsRel w r A n c w2 w.heap.size 0 (p + 1) []) := ⟨(fun x hx => by cases hx), grown_trans HG1.out hg2, hr2, own_far HO1.out hg2 (by omega)⟩
  have hk9 : k ≤ 9 := by omega
  clear hg2 hr2 hW1
  go_wp2_with fail
  go_loopw [5, 7] (fun ov iv wr => ∃ (j g cc q : Nat) (l : List B), j ≤ k ∧ iv = .int .i64 j ∧ ov = .slice (some ⟨g, 0, none⟩) j cc ∧ Hid (l.length = j) ∧ q ≤ p + 1 + 90 * j ∧ Hid (LsRel w r A n c wr g cc q l)) (fun _ iv _ => k - (intOf iv).toNat)
  case atStart => exact ⟨0, w.heap.size, 0, p + 1, [], Nat.zero_le _, rfl, rfl, rfl, by omega, HREL2.out⟩
  case round =>
    obtain ⟨j, g, cc, q, l, hj, rfl, rfl, HLJ, hq, HREL⟩ := hrel
    have hgr : g ≠ r := by have := HREL.out.lt.1; omega
    have HGR : Hid (wr.grownBy wr (some r)) := below_at (Below.refl _ _) r
    have HRR := Lib.hid HREL.out.rd
    by_cases hjk : j < k
    · by_cases hj0 : j = 0
      · subst hj0
        go_wp2_with fail
        refine (pick_any r A n c q 2 wr (by omega) (by omega) HRR.out).mono ?_
        rintro e wa ⟨k2, rfl, hk2, hga, hra⟩
        have HGA := Lib.hid (grown_trans HGR.out hga)
        have HRA := Lib.hid hra
        clear hga hra
        go_wp2_with fail
        refine (HI.out wa (q + 1) k2 (by omega) HRA.out (by omega)).mono ?_
        rintro e wb ⟨t, q4, rfl, ho, hs, hq4, hgb, hrb⟩
        have HGB := Lib.hid (grown_trans HGA.out hgb)
        have HRB := Lib.hid hrb
        have HSB := Lib.hid (HS.out t ho hs wb)
        have htl := text_short t ho hs
        clear hgb hrb ho
        generalize text (sort t) = x at HSB htl
        go_wp2_with fail
        refine HSB.out.mono ?_
        rintro e wc ⟨rfl, hbc⟩
        have HGC := Lib.hid (grown_trans HGB.out (below_at hbc r))
        have HRC := Lib.hid (HRB.out.grown hbc)
        clear hbc
        have HOX : Hid (wc.ownsRow w.heap.size 9 1 (.slice (some ⟨g, 0, none⟩) 0 cc) 0 (sv_ l)) := own_len2 HLJ.out (own_far HREL.out.own HGC.out hgr)
        go_wp2_with (at_builtin; refine wpList_append_own_at _ rfl _ _ 28 rfl w.heap.size 9 i0 (.string ⟨#[]⟩) 1 16 Tryz.underlying28 hi0 hz0 hz1 hz2 rfl (Nat.succ_pos 0) (.slice (some ⟨g, 0, none⟩) 0 cc) 0 (sv_ l) rfl (HOX.out.alloc _) ⟨wc.heap.size, 0, none⟩ 1 1 [.string ⟨x.toArray⟩] rfl rfl (cell_one_new _ _ _) ?_ ?_ ?_ ?_ ?_)
        · intro u hu
          simp at hu; subst hu; rfl
        · unfold maxLen; omega
        · omega
        · have h8 := HREL.out.grown.size
          have h9 := HGC.out.size
          simp; omega
        · intro v' w3 hown3 hgrow3 _ hat3
          obtain ⟨A3, c3, rfl⟩ := own_shape hown3
          obtain ⟨g3, rfl, -⟩ := own_cells hown3 (Nat.succ_pos _)
          have hal : Below wc.heap.size wc (wc.alloc (.cells #[.string ⟨x.toArray⟩] 9)) := (Below.refl _ _).alloc (Nat.le_refl _) _
          have HNEW := Lib.hid (LsRel.more HREL.out HR0.out hrw (grown_trans HGC.out (below_at hal r)) (HRC.out.grown hal) hgrow3 htl (by rw [HLJ.out]; exact hown3))
          clear hown3 hgrow3 hat3 hal
          go_wp2_with fail
          go_roundw
          case rel => exact ⟨0 + 1, g3, c3, _, l ++ [x], by omega, by go_num, rfl, len_snoc HLJ.out x, by omega, HNEW.out⟩
          case measure => simp [intOf]; omega
      · have d1 : decide ((j : Int) > 0) = true := by rw [decide_eq_true_eq]; omega
        go_wp2_with fail
        refine (pick_any r A n c q 3 wr (by omega) (by omega) HRR.out).mono ?_
        rintro e wp ⟨k3, rfl, hk3, hgp, hrp⟩
        have HGP := Lib.hid (grown_trans HGR.out hgp)
        have HRP := Lib.hid hrp
        clear hgp hrp
        by_cases h3 : k3 = 0
        · have d3 : ((k3 : Int) == 0) = true := by simp; omega
          obtain ⟨x0, hx0⟩ : ∃ x0, l[0]? = some x0 := ⟨_, List.getElem?_eq_getElem (by have := HLJ.out; omega)⟩
          have e0 := (OwnT.at (own_far HREL.out.own HGP.out hgr)) 0 x0 hx0
          have hxl := HREL.out.short x0 (List.mem_of_getElem? hx0)
          have hlp : 0 < j := by omega
          clear hx0
          have HOX : Hid (wp.ownsRow w.heap.size 9 1 (.slice (some ⟨g, 0, none⟩) j cc) j (sv_ l)) := own_len2 HLJ.out (own_far HREL.out.own HGP.out hgr)
          go_wp2_with (at_builtin; refine wpList_append_own_at _ rfl _ _ 28 rfl w.heap.size 9 i0 (.string ⟨#[]⟩) 1 16 Tryz.underlying28 hi0 hz0 hz1 hz2 rfl (Nat.succ_pos 0) (.slice (some ⟨g, 0, none⟩) j cc) j (sv_ l) rfl (HOX.out.alloc _) ⟨wp.heap.size, 0, none⟩ 1 1 [.string ⟨x0.toArray⟩] rfl rfl (cell_one_new _ _ _) ?_ ?_ ?_ ?_ ?_)
          · intro u hu
            simp at hu; subst hu; rfl
          · unfold maxLen; omega
          · omega
          · have h8 := HREL.out.grown.size
            have h9 := HGP.out.size
            simp; omega
          · intro v' w3 hown3 hgrow3 _ hat3
            obtain ⟨A3, c3, rfl⟩ := own_shape hown3
            obtain ⟨g3, rfl, -⟩ := own_cells hown3 (Nat.succ_pos _)
            have hal : Below wp.heap.size wp (wp.alloc (.cells #[.string ⟨x0.toArray⟩] 9)) := (Below.refl _ _).alloc (Nat.le_refl _) _
            have HNEW := Lib.hid (LsRel.more HREL.out HR0.out hrw (grown_trans HGP.out (below_at hal r)) (HRP.out.grown hal) hgrow3 hxl (by rw [HLJ.out]; exact hown3))
            clear hown3 hgrow3 hat3 hal
            go_wp2_with fail
            go_roundw
            case rel => exact ⟨j + 1, g3, c3, _, l ++ [x0], by omega, by go_num, rfl, len_snoc HLJ.out x0, by omega, HNEW.out⟩
            case measure => simp [intOf]; omega
        · have d3 : ((k3 : Int) == 0) = false := by simp; omega
          go_wp2_with fail
          refine (pick_any r A n c (q + 1) 2 wp (by omega) (by omega) HRP.out).mono ?_
          rintro e wa ⟨k2, rfl, hk2, hga, hra⟩
          have HGA := Lib.hid (grown_trans HGP.out hga)
          have HRA := Lib.hid hra
          clear hga hra
          go_wp2_with fail
          refine (HI.out wa ((q + 1) + 1) k2 (by omega) HRA.out (by omega)).mono ?_
          rintro e wb ⟨t, q4, rfl, ho, hs, hq4, hgb, hrb⟩
          have HGB := Lib.hid (grown_trans HGA.out hgb)
          have HRB := Lib.hid hrb
          have HSB := Lib.hid (HS.out t ho hs wb)
          have htl := text_short t ho hs
          clear hgb hrb ho
          generalize text (sort t) = x at HSB htl
          go_wp2_with fail
          refine HSB.out.mono ?_
          rintro e wc ⟨rfl, hbc⟩
          have HGC := Lib.hid (grown_trans HGB.out (below_at hbc r))
          have HRC := Lib.hid (HRB.out.grown hbc)
          clear hbc
          have HOX : Hid (wc.ownsRow w.heap.size 9 1 (.slice (some ⟨g, 0, none⟩) j cc) j (sv_ l)) := own_len2 HLJ.out (own_far HREL.out.own HGC.out hgr)
          go_wp2_with (at_builtin; refine wpList_append_own_at _ rfl _ _ 28 rfl w.heap.size 9 i0 (.string ⟨#[]⟩) 1 16 Tryz.underlying28 hi0 hz0 hz1 hz2 rfl (Nat.succ_pos 0) (.slice (some ⟨g, 0, none⟩) j cc) j (sv_ l) rfl (HOX.out.alloc _) ⟨wc.heap.size, 0, none⟩ 1 1 [.string ⟨x.toArray⟩] rfl rfl (cell_one_new _ _ _) ?_ ?_ ?_ ?_ ?_)
          · intro u hu
            simp at hu; subst hu; rfl
          · unfold maxLen; omega
          · omega
          · have h8 := HREL.out.grown.size
            have h9 := HGC.out.size
            simp; omega
          · intro v' w3 hown3 hgrow3 _ hat3
            obtain ⟨A3, c3, rfl⟩ := own_shape hown3
            obtain ⟨g3, rfl, -⟩ := own_cells hown3 (Nat.succ_pos _)
            have hal : Below wc.heap.size wc (wc.alloc (.cells #[.string ⟨x.toArray⟩] 9)) := (Below.refl _ _).alloc (Nat.le_refl _) _
            have HNEW := Lib.hid (LsRel.more HREL.out HR0.out hrw (grown_trans HGC.out (below_at hal r)) (HRC.out.grown hal) hgrow3 htl (by rw [HLJ.out]; exact hown3))
            clear hown3 hgrow3 hat3 hal
            go_wp2_with fail
            go_roundw
            case rel => exact ⟨j + 1, g3, c3, _, l ++ [x], by omega, by go_num, rfl, len_snoc HLJ.out x, by omega, HNEW.out⟩
            case measure => simp [intOf]; omega
    · obtain rfl : j = k := by omega
      by_cases hj0 : j = 0
      · subst hj0
        go_wp2_with fail
        go_ret
        exact ⟨g, cc, q, l, by rw [HLJ.out]; rfl, by have := HLJ.out; omega, HREL.out.short, HREL.out.grown, HREL.out.rd, HREL.out.own⟩
      · have d1 : decide ((j : Int) > 0) = true := by rw [decide_eq_true_eq]; omega
        go_wp2_with fail
        refine (pick_any r A n c q 30 wr (by omega) (by omega) HRR.out).mono ?_
        rintro e wp ⟨k3, rfl, hk3, hgp, hrp⟩
        have HGP := Lib.hid (grown_trans HGR.out hgp)
        have HRP := Lib.hid hrp
        clear hgp hrp
        by_cases h3 : k3 = 0
        · have d3 : ((k3 : Int) == 0) = true := by simp; omega
          go_wp2_with fail
          refine (HOD.out wp (q + 1) HRP.out (by omega)).mono ?_
          rintro e wo ⟨s, q5, rfl, hs5, hq5, hg5, hr5⟩
          have HGO := Lib.hid (grown_trans HGP.out hg5)
          have HRO := Lib.hid hr5
          clear hg5 hr5
          obtain ⟨s', rfl⟩ : ∃ s' : B, s = ⟨s'.toArray⟩ := ⟨s.data.toList, by simp⟩
          have hs6 : s'.length ≤ 4000 := by simpa [ByteArray.size] using hs5
          have hown5 := own_far HREL.out.own HGO.out hgr
          obtain ⟨x0, hx0⟩ : ∃ x0, l[0]? = some x0 := ⟨_, List.getElem?_eq_getElem (by have := HLJ.out; omega)⟩
          have e0 := hown5.at 0 x0 hx0
          have e1 := World.ownsRow.frozenAt hown5 0
          obtain ⟨hst, hsg⟩ := World.ownsRow.stored hown5 0 (.string ⟨s'.toArray⟩)
          rw [sv_set l s'] at hst
          have HST := Lib.hid hst
          have HSG := Lib.hid (grown_far (grown_trans HREL.out.grown HGO.out) hsg HREL.out.lt.1)
          have HRZ := Lib.hid (rd_again HR0.out HSG.out (HRO.out.blk.grown hsg (by intro e; injection e with e; exact hgr e.symm)))
          have hlp : 0 < j := by omega
          have HSH : Hid (∀ x ∈ l.set 0 s', x.length ≤ 4000) := fun x hx => by
            rcases List.mem_or_eq_of_mem_set hx with hx | hx
            · exact HREL.out.short x hx
            · rw [hx]; exact hs6
          have hsl : (l.set 0 s').length = l.length := List.length_set
          clear hown5 hst hsg hx0
          go_wp2_with fail
          go_ret
          exact ⟨g, cc, q5, l.set 0 s', by rw [hsl, HLJ.out]; rfl, by have := HLJ.out; omega, HSH.out, HSG.out, HRZ.out, by unfold OwnT; rw [hsl]; exact HST.out⟩
        · have d3 : ((k3 : Int) == 0) = false := by simp; omega
          go_wp2_with fail
          go_ret
          exact ⟨g, cc, q + 1, l, by rw [HLJ.out]; rfl, by have := HLJ.out; omega, HREL.out.short, grown_trans HREL.out.grown HGP.out, HRP.out, own_far HREL.out.own HGP.out hgr⟩

/-- What a draw of a list does. -/
def DrawPostL (w : World) (e : Ending) (w' : World) : Prop :=
  ∃ (g cc Bb : Nat) (l : List B), e = .returned (.slice (some ⟨g, 0, none⟩) l.length cc) ∧ l.length ≤ 10 ∧ (∀ x ∈ l, x.length ≤ 4000) ∧ Below w.heap.size w w' ∧ w.heap.size ≤ Bb ∧ OwnT w' Bb g cc l

set_option maxHeartbeats 800000 in
set_option maxRecDepth 100000 in
theorem drawBagSort_any (hBag : BagSaid) (A : Option Addr) (n c : Nat) (w : World) (hn : n ≤ maxLen) (hnc : n ≤ c) (hB : Bytes w A n) :
    Calls Tryz.prog 30 #[.slice A n c] w (DrawPostL w) := by
  have HO := Lib.hid (l6Open_any A n c w hn hnc hB)
  have HL : Hid (∀ r m W, Rd W r A m c 0 → Calls Tryz.prog 69 #[.pointer (some ⟨r, 0, none⟩), .int .i64 5] W (ListPost W r A m c)) := fun r m W h => l91List_any hBag r A m c 0 5 W h (by omega) (by omega)
  clear hB
  go_enter Tryz.func30, Tryz.ntmps30
  go_wp2_with fail
  refine HO.out.mono ?_
  rintro e w1 ⟨rfl, hb1, m, hr1⟩
  have HB1 := Lib.hid hb1
  have HR1 := Lib.hid hr1
  clear hb1 hr1
  go_wp2_with fail
  refine (HL.out w.heap.size m w1 HR1.out).mono ?_
  rintro e w2 ⟨g, cc, q, l, rfl, hl, hsh, hg, -, hown⟩
  have HB2 := Lib.hid (below_pool HB1.out hg)
  have hs1 := HB1.out.size
  have HOW := Lib.hid hown
  have HSH := Lib.hid hsh
  clear hg hown hsh
  go_wp2_with fail
  go_ret
  exact ⟨g, cc, w1.heap.size, l, rfl, hl, HSH.out, HB2.out, hs1, HOW.out⟩

end Go.Proofs.YthlenhnioocbgaaGreatDoor
