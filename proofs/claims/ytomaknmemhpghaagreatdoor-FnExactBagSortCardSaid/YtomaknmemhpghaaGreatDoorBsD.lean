/- The model's BagSort. -/
import Derived.Test.YtomaknmemhpghaaGreatDoorBsC
namespace Go.Proofs.YtomaknmemhpghaaGreatDoor
open Go.RowKit Rt

theorem ofTerms_snoc (l : List Term) (t : Term) : ofTerms (l ++ [t]) = ofTerms l ++ [ofTerm t] := by rw [ofTerms_append]; rfl

/-- What holds at the head of the model's loop. -/
structure TrRel (w : World) (ss : List ByteArray) (wr : World) (k : Nat) (ts : List Term) (g d : Nat) (xs : List Value) : Prop where
  le : k ≤ ss.length
  res : termsOf (ss.take k) = some ts
  own : wr.ownsRow w.heap.size 55 2 (.slice (some ⟨g, 0, none⟩) k d) k xs
  kd : k ≤ d
  dm : d ≤ maxLen
  gB : w.heap.size ≤ g
  gS : g < wr.heap.size
  rep : RepFF (fun q => w.heap.size ≤ q ∧ q ≠ g) wr (ofTerms ts) xs
  below : Below w.heap.size w wr

theorem sizes_bound : ∀ l : List Term, (∀ u ∈ l, size u ≤ 60) → sizes l ≤ 60 * l.length
  | [], _ => by simp [sizes]
  | t :: l, h => by
    have h1 := h t (by simp)
    have h2 := sizes_bound l (fun u hu => h u (by simp [hu]))
    simp only [sizes, List.length_cons]; omega

set_option maxHeartbeats 3200000 in
set_option maxRecDepth 100000 in
theorem specBagSort (hBag : BagSaid) (A : Option Addr) (c : Nat) (ss : List ByteArray) (w : World) (hn : ss.length ≤ 1048576) (hs : ∀ s ∈ ss, s.size ≤ maxLen) (hA : Texts w A ss) :
    Calls Tryz.prog 43 #[.slice A ss.length c] w fun e w' => e = .returned (.tuple #[st (bagRes ss).1, .bool (bagRes ss).2]) ∧ Below w.heap.size w w' := by
  obtain ⟨i0, hi0, hz0, hz1, hz2⟩ := info_parts tree_info
  have HT : Hid (bagRes ss = match termsOf ss with | some ts => if 2 + sizes ts ≤ 60 then (bagT (sortBag ts), true) else ([], false) | none => ([], false)) := rfl
  have HA := Lib.hid hA
  have HS := Lib.hid hs
  have HBAG := Lib.hid hBag
  generalize bagRes ss = x at HT ⊢
  clear hA hs
  go_enter Tryz.func43, Tryz.ntmps43
  go_wp2_with fail
  go_loopw [4, 5, 6] (fun sv zv iv wr => ∃ k ts g' d' xs, iv = .int .i64 (k : Nat) ∧ zv = .int .i64 ((2 : Int) + (sizes ts : Nat)) ∧ sv = .slice (some ⟨g', 0, none⟩) k d' ∧ Hid (TrRel w ss wr k ts g' d' xs)) (fun _ _ iv _ => ss.length - (intOf iv).toNat)
  case atStart =>
    refine ⟨0, [], w.heap.size, 0, [], rfl, by simp [sizes], rfl, ⟨Nat.zero_le _, rfl, own_new w 55 #[] 0 2 w.heap.size (Nat.le_refl _) rfl (by decide), Nat.le_refl _, by decide, Nat.le_refl _, by simp, by simp [ofTerms, RepFF], below_one _ _⟩⟩
  case round =>
    obtain ⟨k, ts, g', d', xs, rfl, rfl, rfl, hrel⟩ := hrel
    have hj := hrel.out.le
    have htk := termsOf_ok _ _ hrel.out.res
    have hzb : sizes ts ≤ 60 * ss.length := by
      have h1 := sizes_bound ts htk.2.2
      have h2 := htk.1
      simp at h2
      omega
    have HTK := Lib.hid htk
    have hsz0 : w.heap.size ≤ g' := hrel.out.gB
    have hgS := hrel.out.gS
    clear htk
    by_cases hlt : k < ss.length
    · obtain ⟨s, hsk⟩ : ∃ s, ss[k]? = some s := ⟨_, List.getElem?_eq_getElem hlt⟩
      obtain ⟨g, o, rfl, e0⟩ := HA.out k s hsk
      have e1 : wr.cell? ⟨g, o + k, none⟩ = some (.string s) := (hrel.out.below.cell (p := ⟨g, o + k, none⟩) (World.block_lt_of_cell? w _ e0)).trans e0
      have HC := Lib.hid (l1Term_any HBAG.out s (HS.out s (List.mem_of_getElem? hsk)) wr)
      have HX := Lib.hid hsk
      clear e0 hsk
      go_wp2_with fail
      refine HC.out.mono ?_
      intro e w2 hp
      cases ht : termOf s.data.toList with
      | none =>
        rw [ht] at hp
        obtain ⟨hb2, u, A2, n2, c2, rfl⟩ := hp
        have HB2 := Lib.hid (hrel.out.below.trans (hb2.mono hrel.out.below.size))
        have HXX : Hid (x = ([], false)) := by show _ = _; rw [HT.out, termsOf_none ss k s HX.out ht]
        clear hb2 ht
        go_wp2_with fail
        go_ret2
        exact ⟨by rw [HXX.out]; rfl, HB2.out.alloc HB2.out.size _⟩
      | some t =>
        rw [ht] at hp
        obtain ⟨hb2, v, rfl, hr⟩ := hp
        obtain ⟨u, A2, n2, c2, rfl⟩ := repS_shape (RepSF.rep _ _ hr)
        have HTT := Lib.hid ht
        have ht60 : size t ≤ 60 := (termOf_ok _ t ht).2
        have hbox := Blk.new w2 55 #[.string ⟨u.toArray⟩, .slice A2 n2 c2]
        have hbW : Below wr.heap.size wr (w2.alloc (.cells #[.string ⟨u.toArray⟩, .slice A2 n2 c2] 55)) := hb2.alloc hb2.size _
        have hrW := RepSF.move (G := fun q => wr.heap.size ≤ q ∧ q < w2.heap.size) (w' := w2.alloc (.cells #[.string ⟨u.toArray⟩, .slice A2 n2 c2] 55)) (fun k _ hk => Below.heap_alloc w2 _ k hk) (fun k hk hk2 => ⟨hk, hk2⟩) _ _ hr
        have hs2 := hb2.size
        have HSZ := Lib.hid (l1Size_any 60 t _ (w2.alloc (.cells #[.string ⟨u.toArray⟩, .slice A2 n2 c2] 55)) ht60 (by omega) (RepSF.rep _ _ hrW))
        have HBOX := Lib.hid hbox
        have HBW := Lib.hid hbW
        have HRW := Lib.hid hrW
        have hWs : (w2.alloc (.cells #[.string ⟨u.toArray⟩, .slice A2 n2 c2] 55)).heap.size = w2.heap.size + 1 := by simp
        have HWS := Lib.hid hWs
        clear hb2 hr ht hbox hbW hrW hWs
        go_wp2_with (first
          | (go_at_call 60; refine HSZ.out.mono ?_; rintro e w4 ⟨rfl, hb4⟩; have HB4 := Lib.hid hb4; have hbox4 := HBOX.out.below hb4 HBOX.out.lt; have p0 := (blk_cells hbox4).1; have p1 := (blk_cells hbox4).2.1; have hs4 : w2.heap.size + 1 ≤ w4.heap.size := (by have h9 := hb4.size; have h8 := HWS.out; omega); have HOWN : Hid (w4.ownsRow w.heap.size 55 2 (.slice (some ⟨g', 0, none⟩) k d') k xs) := (hrel.out.own.kept (row := none) ⟨(HBW.out.trans (hb4.mono HBW.out.size)).os, (HBW.out.trans (hb4.mono HBW.out.size)).tape, (HBW.out.trans (hb4.mono HBW.out.size)).output, (HBW.out.trans (hb4.mono HBW.out.size)).size, fun q hq _ => (HBW.out.trans (hb4.mono HBW.out.size)).block q hq⟩ (by simp [Value.ownBlock])); clear hbox4 hb4)
          | (at_builtin; refine wpList_append_own_at _ rfl _ _ 53 rfl w.heap.size 55 i0 (.agg #[.string ⟨#[]⟩, .slice none 0 0]) 2 40 Tryz.underlying53 hi0 hz0 hz1 hz2 rfl (Nat.succ_pos 1) (.slice (some ⟨g', 0, none⟩) k d') k xs rfl (HOWN.out.alloc _) ⟨w4.heap.size, 0, none⟩ 1 1 [.string ⟨u.toArray⟩, .slice A2 n2 c2] rfl rfl (cell_two_new _ _ _ _) ?_ ?_ ?_ ?_ ?_))
        · intro x hx
          simp at hx
          rcases hx with rfl | rfl <;> rfl
        · unfold maxLen; omega
        · omega
        · simp; omega
        · intro v' w5 hown5 hgrow5 _ hat5
          obtain ⟨A5, c5', rfl⟩ := own_shape hown5
          obtain ⟨g5, rfl, o1, o2, o3, o4, o5⟩ := own_cells hown5 (Nat.succ_pos _)
          have hg5 : ∀ q, q < w4.heap.size → q ≠ g' → q ≠ g5 := by
            intro q hq hne e
            rcases hat5 with h | h
            · simp [Value.ownBlock] at h; omega
            · simp [Value.ownBlock] at h; omega
          have hal : ∀ q, q < w4.heap.size → q ≠ g' → w5.heap[q]? = w4.heap[q]? := by
            intro q hq hne
            rw [hgrow5.block q (by simp; omega) (by simp [Value.ownBlock]; exact hne), Below.heap_alloc _ _ _ hq]
          have hb4r : Below wr.heap.size wr w4 := HBW.out.trans (HB4.out.mono HBW.out.size)
          have hrel5 : TrRel w ss w5 (k + 1) (ts ++ [t]) g5 c5' (xs ++ [.string ⟨u.toArray⟩, .slice A2 n2 c2]) := by
            refine ⟨by omega, termsOf_snoc ss k s ts t HX.out hrel.out.res HTT.out, hown5, o3, o4, o1, o2, ?_, ?_⟩
            · rw [ofTerms_snoc]
              refine RepFF.append _ _ _ _ ?_ (RepFF.one ?_)
              · refine RepFF.move ?_ ?_ _ _ hrel.out.rep
                · intro q hq hq2
                  rw [hal q (by omega) hq.2]
                  exact hb4r.block q hq2
                · intro q hq hq2
                  exact ⟨hq.1, hg5 q (by omega) hq.2⟩
              · refine RepSF.move ?_ ?_ _ _ HRW.out
                · intro q hq hq2
                  rw [hal q (by omega) (by omega)]
                  exact HB4.out.block q (by have := HWS.out; omega)
                · intro q hq hq2
                  exact ⟨by omega, hg5 q (by omega) (by omega)⟩
            · exact ((hrel.out.below.trans (hb4r.mono hrel.out.below.size)).alloc (by omega) _).grown hgrow5 (by simp; omega) (fun q hq => by simp [Value.ownBlock] at hq; omega)
          have HREL5 := Lib.hid hrel5
          have HSZ5 : Hid ((2 : Int) + (sizes ts : Nat) + (size t : Nat) = (2 : Int) + (sizes (ts ++ [t]) : Nat)) := by
            show _ = _
            have : sizes (ts ++ [t]) = sizes ts + size t := by rw [sizes_sum, sizes_sum]; simp
            rw [this]; push_cast; omega
          clear hrel5 hown5 hgrow5 hat5 o1 o2 o3 o4 o5 hg5 hal hb4r
          go_wp2_with fail
          go_roundw
          case rel => exact ⟨k + 1, ts ++ [t], g5, c5', _, by go_num, by rw [HSZ5.out], rfl, HREL5.out⟩
          case measure => simp [intOf]; omega
    · obtain rfl : k = ss.length := by omega
      have hres := hrel.out.res
      rw [List.take_of_length_le (Nat.le_refl _)] at hres
      have hlen : ts.length = ss.length := by have := HTK.out.1; simpa using this
      by_cases hz : 2 + sizes ts ≤ 60
      · have HXX : Hid (x = (bagT (sortBag ts), true)) := by show _ = _; rw [HT.out, hres]; simp only; rw [if_pos hz]
        have hbg := HBAG.out (fun q => w.heap.size ≤ q ∧ q ≠ g') ⟨g', 0, none⟩ d' 0 ts xs wr (by have := bag_short ts; omega) hgS rfl (by rw [hlen]; exact hrel.out.kd) hrel.out.dm HTK.out.2.1
          (by
            intro u hu
            have h1 := text_size 0 u ((oks_mem 0 ts).1 HTK.out.2.1 u hu)
            have h2 := HTK.out.2.2 u hu
            omega)
          (fun j u hu => hrel.out.own.cells (g := g') rfl j u hu) hrel.out.rep
        rw [hlen] at hbg
        have HBG := Lib.hid hbg
        have hsok : oks 0 (sortBag ts) = true := by rw [oks_perm 0 _ _ (sortBag_perm ts)]; exact HTK.out.2.1
        have hbt := bagT_len (sortBag ts) hsok
        have hsp := sizes_perm _ _ (sortBag_perm ts)
        have hts : (textT (.list (.atom sM :: ofTerms (sortBag ts)))).length ≤ 1000000 := by unfold bagT at hbt; omega
        have HWF : Hid (wfT (.list (.atom sM :: ofTerms (sortBag ts))) = true) := by
          show _ = _
          rw [wfT, wfL, wf_ofTerms 0 _ hsok]
          rfl
        have HBT : Hid (textT (.list (.atom sM :: ofTerms (sortBag ts))) = bagT (sortBag ts)) := rfl
        have HB1 := Lib.hid hrel.out.below
        clear hres hbg hbt hsp hsok
        generalize sortBag ts = sts at *
        go_wp2_with fail
        refine HBG.out.mono ?_
        rintro e w2 ⟨hb2, v2, rfl, hr2⟩
        obtain ⟨u2, A2, n2, c2, rfl⟩ := repS_shape (RepSF.rep _ _ hr2)
        have HB2 := Lib.hid (HB1.out.trans (hb2.mono HB1.out.size))
        have HR2 := Lib.hid (RepSF.rep _ _ hr2)
        clear hb2 hr2
        go_wp2_with fail
        refine (l1Text_any _ (.list (.atom sM :: ofTerms sts)) _ _ (Nat.le_refl _) HR2.out HWF.out hts).mono ?_
        rintro e w3 ⟨rfl, hb3⟩
        have HB3 := Lib.hid (HB2.out.trans (hb3.mono HB2.out.size))
        clear hb3
        rw [HBT.out]
        go_wp2_with fail
        go_ret2
        exact ⟨by rw [HXX.out]; rfl, HB3.out⟩
      · have HXX : Hid (x = ([], false)) := by show _ = _; rw [HT.out, hres]; simp only; rw [if_neg hz]
        have hz2 : 60 < 2 + sizes ts := by omega
        clear hres hz
        go_wp2_with fail
        go_ret2
        exact ⟨by rw [HXX.out]; rfl, hrel.out.below⟩

end Go.Proofs.YtomaknmemhpghaaGreatDoor
