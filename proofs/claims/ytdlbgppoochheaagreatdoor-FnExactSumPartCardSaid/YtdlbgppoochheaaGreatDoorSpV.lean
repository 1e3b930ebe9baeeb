/- The model's SumValid. -/
import Derived.Test.YtdlbgppoochheaaGreatDoorSumR
import Derived.Test.YtdlbgppoochheaaGreatDoorSpecM
import Derived.Test.YtdlbgppoochheaaGreatDoorSpecK
import Derived.Test.YtdlbgppoochheaaGreatDoorBsB
import Derived.Deep.RegionHeld3
namespace Go.Proofs.YtdlbgppoochheaaGreatDoor
open Go.RowKit Rt Go.Lib

theorem seven_drew {w0 W : World} {g1 g2 g3 g4 g5 g6 g7 j1 j2 j3 j4 j5 j6 j7 : Nat} {x1 x2 x3 x4 x5 x6 x7 : Value} (h : W.cell? ⟨g1, j1, none⟩ = some x1 ∧ W.cell? ⟨g2, j2, none⟩ = some x2 ∧ W.cell? ⟨g3, j3, none⟩ = some x3 ∧ W.cell? ⟨g4, j4, none⟩ = some x4 ∧ W.cell? ⟨g5, j5, none⟩ = some x5 ∧ W.cell? ⟨g6, j6, none⟩ = some x6 ∧ W.cell? ⟨g7, j7, none⟩ = some x7 ∧ Below w0.heap.size w0 W) : W.drew.cell? ⟨g1, j1, none⟩ = some x1 ∧ W.drew.cell? ⟨g2, j2, none⟩ = some x2 ∧ W.drew.cell? ⟨g3, j3, none⟩ = some x3 ∧ W.drew.cell? ⟨g4, j4, none⟩ = some x4 ∧ W.drew.cell? ⟨g5, j5, none⟩ = some x5 ∧ W.drew.cell? ⟨g6, j6, none⟩ = some x6 ∧ W.drew.cell? ⟨g7, j7, none⟩ = some x7 ∧ Below w0.heap.size w0 W.drew :=
  ⟨h.1, h.2.1, h.2.2.1, h.2.2.2.1, h.2.2.2.2.1, h.2.2.2.2.2.1, h.2.2.2.2.2.2.1, (h.2.2.2.2.2.2.2).drew⟩

theorem seven_below {w0 W W2 : World} {g1 g2 g3 g4 g5 g6 g7 j1 j2 j3 j4 j5 j6 j7 : Nat} {x1 x2 x3 x4 x5 x6 x7 : Value} (h : W.cell? ⟨g1, j1, none⟩ = some x1 ∧ W.cell? ⟨g2, j2, none⟩ = some x2 ∧ W.cell? ⟨g3, j3, none⟩ = some x3 ∧ W.cell? ⟨g4, j4, none⟩ = some x4 ∧ W.cell? ⟨g5, j5, none⟩ = some x5 ∧ W.cell? ⟨g6, j6, none⟩ = some x6 ∧ W.cell? ⟨g7, j7, none⟩ = some x7 ∧ Below w0.heap.size w0 W) (hb : Below W.heap.size W W2) : W2.cell? ⟨g1, j1, none⟩ = some x1 ∧ W2.cell? ⟨g2, j2, none⟩ = some x2 ∧ W2.cell? ⟨g3, j3, none⟩ = some x3 ∧ W2.cell? ⟨g4, j4, none⟩ = some x4 ∧ W2.cell? ⟨g5, j5, none⟩ = some x5 ∧ W2.cell? ⟨g6, j6, none⟩ = some x6 ∧ W2.cell? ⟨g7, j7, none⟩ = some x7 ∧ Below w0.heap.size w0 W2 := by
  obtain ⟨k1, k2, k3, k4, k5, k6, k7, k8⟩ := h
  exact ⟨(hb.cell (World.block_lt_of_cell? _ _ k1)).trans k1, (hb.cell (World.block_lt_of_cell? _ _ k2)).trans k2, (hb.cell (World.block_lt_of_cell? _ _ k3)).trans k3, (hb.cell (World.block_lt_of_cell? _ _ k4)).trans k4, (hb.cell (World.block_lt_of_cell? _ _ k5)).trans k5, (hb.cell (World.block_lt_of_cell? _ _ k6)).trans k6, (hb.cell (World.block_lt_of_cell? _ _ k7)).trans k7, k8.trans (hb.mono k8.size)⟩

set_option maxHeartbeats 40000000 in
set_option maxRecDepth 100000 in
theorem specSumValid (A B C : Option Addr) (ca cb cc : Nat) (ss : List ByteArray) (ts bs : List Int) (w : World) (hs : ∀ s ∈ ss, s.size ≤ maxLen) (hl1 : ss.length ≤ maxLen) (_ : ts.length ≤ maxLen) (_ : bs.length ≤ maxLen)
    (hA : Texts w A ss) (hB : Ints w B ts) (hC : Ints w C bs) :
    Calls Tryz.prog 7 #[.agg #[.slice A ss.length ca, .slice B ts.length cb, .slice C bs.length cc]] w fun e w' => e = .returned (.bool (sumOk ss ts bs)) ∧ Below w.heap.size w w' := by
  unfold maxLen at hl1
  by_cases hlen : ss.length ≤ 300 ∧ ts.length = ss.length ∧ bs.length = ss.length
  · obtain ⟨h1, h2, h3⟩ := hlen
    have HS := Lib.hid hs
    have HA := Lib.hid hA
    have HB := Lib.hid hB
    have HC := Lib.hid hC
    have HL : Hid (ts.length = ss.length ∧ bs.length = ss.length) := ⟨h2, h3⟩
    rw [h2, h3]
    have d1 : decide ((ss.length : Int) > 300) = false := by rw [decide_eq_false_iff_not]; omega
    have d2 : ((ss.length : Int) != (ss.length : Int)) = false := by simp
    have HOKX : Hid ((∀ i, i < ss.length → itemOk ss ts bs i = true) → sumOk ss ts bs = true) := fun h => sumOk_true h1 h2 h3 h
    have HNOX : Hid (∀ k, k < ss.length → itemOk ss ts bs k = false → sumOk ss ts bs = false) := fun k hk h => sumOk_false hk h
    generalize sumOk ss ts bs = x at HOKX HNOX ⊢
    clear hs hA hB hC h2 h3
    go_enter Tryz.func7, Tryz.ntmps7
    go_wp2_with fail
    go_loopw [4] (fun iv wr => ∃ k, k ≤ ss.length ∧ iv = .int .i64 (k : Nat) ∧ Hid (∀ i, i < k → itemOk ss ts bs i = true) ∧ Hid (Below w.heap.size w wr) ∧ Hid (wr.cell? ⟨w.heap.size, 0, none⟩ = some (.slice A ss.length ca) ∧ wr.cell? ⟨w.heap.size, 1, none⟩ = some (.slice B ss.length cb) ∧ wr.cell? ⟨w.heap.size, 2, none⟩ = some (.slice C ss.length cc))) (fun iv _ => ss.length - (intOf iv).toNat)
    case atStart => exact ⟨0, Nat.zero_le _, rfl, fun i hi => by omega, by show Below _ _ _; go_grown, blk_three (Blk.new w 28 _)⟩
    case round =>
      obtain ⟨k, hk, rfl, HOK, hbel, hbox⟩ := hrel
      by_cases hlt : k < ss.length
      · obtain ⟨s, hsk⟩ : ∃ s, ss[k]? = some s := ⟨_, List.getElem?_eq_getElem hlt⟩
        have HSA : Hid (sAt ss k = s.data.toList) := by show _ = _; unfold sAt; rw [List.getD, hsk]; rfl
        obtain ⟨T, hTk⟩ : ∃ T, ts[k]? = some T := ⟨_, List.getElem?_eq_getElem (by rw [HL.out.1]; exact hlt)⟩
        obtain ⟨Z, hZk⟩ : ∃ Z, bs[k]? = some Z := ⟨_, List.getElem?_eq_getElem (by rw [HL.out.2]; exact hlt)⟩
        have HTT : Hid (ts.getD k 0 = T) := by show _ = _; rw [List.getD, hTk]; rfl
        have HZZ : Hid (bs.getD k 0 = Z) := by show _ = _; rw [List.getD, hZk]; rfl
        have hAr := HA.out.below hbel.out
        obtain ⟨g, o, hAe, e1⟩ := hAr k s hsk
        obtain ⟨gB, oB, hBe, eB⟩ := (HB.out.below hbel.out) k T hTk
        obtain ⟨gC, oC, hCe, eC⟩ := (HC.out.below hbel.out) k Z hZk
        subst hAe
        subst hBe
        subst hCe
        have HAR := Lib.hid hAr
        have hsz := HS.out s (List.mem_of_getElem? hsk)
        have HTV : Hid (∀ W, Calls Tryz.prog 17 #[.string s] W fun e w' => e = .returned (.bool (termOf s.data.toList).isSome) ∧ Below W.heap.size W w') := fun W => specTermValid l1Bag_any s hsz W
        obtain ⟨b0, b1, b2⟩ := hbox.out
        clear hAr hsk hTk hZk
        have hS7 := seven_drew (w0 := w) ⟨b0, b1, b2, e1, eB, eC, b0, hbel.out⟩
        clear b0 b1 b2 e1 eB eC
        cases ht : termOf s.data.toList with
        | none =>
          have HXF : Hid (x = false) := HNOX.out k hlt (item_none (by rw [HSA.out]; exact ht))
          rw [ht] at HTV
          clear ht
          have hn1 : (none : Option Term).isSome = false := rfl
          go_wp2_with fail
          refine wp_region_held (S := (fun W' => (W'.cell? ⟨w.heap.size, 0, none⟩ = some (.slice (some ⟨g, o, none⟩) ss.length ca) ∧ W'.cell? ⟨w.heap.size, 1, none⟩ = some (.slice (some ⟨gB, oB, none⟩) ss.length cb) ∧ W'.cell? ⟨w.heap.size, 2, none⟩ = some (.slice (some ⟨gC, oC, none⟩) ss.length cc) ∧ W'.cell? ⟨g, o + k, none⟩ = some (.string s) ∧ W'.cell? ⟨gB, oB + k, none⟩ = some (.int .i64 T) ∧ W'.cell? ⟨gC, oC + k, none⟩ = some (.int .i64 Z) ∧ W'.cell? ⟨w.heap.size, 0, none⟩ = some (.slice (some ⟨g, o, none⟩) ss.length ca) ∧ Below w.heap.size w W'))) (by kernel_rfl) ?_
          change wpAnyH _ _ _ _ _ _ _ _ (World.drew _)
          have hHeld := hS7
          refine wpAnyH_take (i := 0) (v := ?_) rfl (by kernel_rfl) (by kernel_rfl) (by kernel_rfl) (fun _ _ _ h => h) (Or.inl ⟨by rfl, ?_⟩) (by assumption) ?_
          rotate_left
          · (intro w hSw; (try dsimp only at hSw); go_simp; try with_reducible rfl)
          try go_simp
          refine wpAnyH_take (i := 1) (v := ?_) rfl (by kernel_rfl) (by kernel_rfl) (by kernel_rfl) (fun _ _ _ h => h) (Or.inl ⟨by rfl, ?_⟩) (by assumption) ?_
          rotate_left
          · (intro w hSw; (try dsimp only at hSw); go_simp; try with_reducible rfl)
          try go_simp
          refine wpAnyH_take (i := 2) (v := ?_) rfl (by kernel_rfl) (by kernel_rfl) (by kernel_rfl) (fun _ _ _ h => h) (Or.inl ⟨by rfl, ?_⟩) (by assumption) ?_
          rotate_left
          · (intro w hSw; (try dsimp only at hSw); go_simp; try with_reducible rfl)
          try go_simp
          refine wpAnyH_take (i := 3) (v := ?_) rfl (by kernel_rfl) (by kernel_rfl) (by kernel_rfl) (fun _ _ _ h => h) (Or.inl ⟨by rfl, ?_⟩) (by assumption) ?_
          rotate_left
          · (intro w hSw; (try dsimp only at hSw); go_simp; try with_reducible rfl)
          try go_simp
          refine wpAnyH_take (i := 4) (v := ?_) rfl (by kernel_rfl) (by kernel_rfl) (by kernel_rfl) (fun _ _ _ h => h) (Or.inl ⟨by rfl, ?_⟩) (by assumption) ?_
          rotate_left
          · (intro w hSw; (try dsimp only at hSw); go_simp; try with_reducible rfl)
          try go_simp
          refine wpAnyH_ready (rs := [5]) (by kernel_rfl) (by simp) ?_
          refine AllReadyH.cons rfl (fun K hK => ?_) AllReadyH.nil
          go_simp
          go_wp2_with (go_at_call 17; (with_reducible refine (HTV.out _).mono ?_); rintro e wa ⟨rfl, hba⟩)
          refine hK.out _ _ ?_ (fun hHeld2 => ?_)
          · (first
              | (with_reducible assumption)
              | (with_reducible exact seven_below ‹_ ∧ _ ∧ _ ∧ _ ∧ _ ∧ _ ∧ _ ∧ Below _ _ _› hba))
          clear hK K hHeld
          have hHeld := hHeld2
          clear hHeld2
          refine wpAnyH_take (i := 6) (v := ?_) rfl (by kernel_rfl) (by kernel_rfl) (by kernel_rfl) (fun _ _ _ h => h) (Or.inl ⟨by rfl, ?_⟩) (by assumption) ?_
          rotate_left
          · (intro w hSw; (try dsimp only at hSw); go_simp; try with_reducible rfl)
          try go_simp
          refine wpAnyH_take (i := 7) (v := ?_) rfl (by kernel_rfl) (by kernel_rfl) (by kernel_rfl) (fun _ _ _ h => h) (Or.inl ⟨by rfl, ?_⟩) (by assumption) ?_
          rotate_left
          · (intro w hSw; (try dsimp only at hSw); go_simp; try with_reducible rfl)
          try go_simp
          refine wpAnyH_take (i := 8) (v := undef) rfl (by kernel_rfl) (by kernel_rfl) (by kernel_rfl) (fun _ _ _ h => h) (Or.inr ⟨by rfl, rfl⟩) (by assumption) ?_
          try go_simp
          refine wpAnyH_take (i := 9) (v := undef) rfl (by kernel_rfl) (by kernel_rfl) (by kernel_rfl) (fun _ _ _ h => h) (Or.inr ⟨by rfl, rfl⟩) (by assumption) ?_
          try go_simp
          refine wpAnyH_take (i := 10) (v := undef) rfl (by kernel_rfl) (by kernel_rfl) (by kernel_rfl) (fun _ _ _ h => h) (Or.inr ⟨by rfl, rfl⟩) (by assumption) ?_
          try go_simp
          refine wpAnyH_take (i := 11) (v := undef) rfl (by kernel_rfl) (by kernel_rfl) (by kernel_rfl) (fun _ _ _ h => h) (Or.inr ⟨by rfl, rfl⟩) (by assumption) ?_
          try go_simp
          refine wpAnyH_take (i := 12) (v := undef) rfl (by kernel_rfl) (by kernel_rfl) (by kernel_rfl) (fun _ _ _ h => h) (Or.inr ⟨by rfl, rfl⟩) (by assumption) ?_
          try go_simp
          refine wpAnyH_take (i := 13) (v := undef) rfl (by kernel_rfl) (by kernel_rfl) (by kernel_rfl) (fun _ _ _ h => h) (Or.inr ⟨by rfl, rfl⟩) (by assumption) ?_
          try go_simp
          refine wpAnyH_take (i := 14) (v := undef) rfl (by kernel_rfl) (by kernel_rfl) (by kernel_rfl) (fun _ _ _ h => h) (Or.inr ⟨by rfl, rfl⟩) (by assumption) ?_
          try go_simp
          refine wpAnyH_take (i := 15) (v := undef) rfl (by kernel_rfl) (by kernel_rfl) (by kernel_rfl) (fun _ _ _ h => h) (Or.inr ⟨by rfl, rfl⟩) (by assumption) ?_
          try go_simp
          refine wpAnyH_take (i := 16) (v := undef) rfl (by kernel_rfl) (by kernel_rfl) (by kernel_rfl) (fun _ _ _ h => h) (Or.inr ⟨by rfl, rfl⟩) (by assumption) ?_
          try go_simp
          refine wpAnyH_take (i := 17) (v := undef) rfl (by kernel_rfl) (by kernel_rfl) (by kernel_rfl) (fun _ _ _ h => h) (Or.inr ⟨by rfl, rfl⟩) (by assumption) ?_
          try go_simp
          refine wpAnyH_take (i := 18) (v := undef) rfl (by kernel_rfl) (by kernel_rfl) (by kernel_rfl) (fun _ _ _ h => h) (Or.inr ⟨by rfl, rfl⟩) (by assumption) ?_
          try go_simp
          refine wpAnyH_take (i := 19) (v := undef) rfl (by kernel_rfl) (by kernel_rfl) (by kernel_rfl) (fun _ _ _ h => h) (Or.inr ⟨by rfl, rfl⟩) (by assumption) ?_
          try go_simp
          refine wpAnyH_take (i := 20) (v := ?_) rfl (by kernel_rfl) (by kernel_rfl) (by kernel_rfl) (fun _ _ _ h => h) (Or.inl ⟨by rfl, ?_⟩) (by assumption) ?_
          rotate_left
          · (intro w hSw; (try dsimp only at hSw); go_simp; try with_reducible rfl)
          try go_simp
          refine wpAnyH_take (i := 21) (v := ?_) rfl (by kernel_rfl) (by kernel_rfl) (by kernel_rfl) (fun _ _ _ h => h) (Or.inl ⟨by rfl, ?_⟩) (by assumption) ?_
          rotate_left
          · (intro w hSw; (try dsimp only at hSw); go_simp; try with_reducible rfl)
          try go_simp
          refine wpAnyH_take (i := 22) (v := undef) rfl (by kernel_rfl) (by kernel_rfl) (by kernel_rfl) (fun _ _ _ h => h) (Or.inr ⟨by rfl, rfl⟩) (by assumption) ?_
          try go_simp
          refine wpAnyH_take (i := 23) (v := undef) rfl (by kernel_rfl) (by kernel_rfl) (by kernel_rfl) (fun _ _ _ h => h) (Or.inr ⟨by rfl, rfl⟩) (by assumption) ?_
          try go_simp
          refine wpAnyH_take (i := 24) (v := undef) rfl (by kernel_rfl) (by kernel_rfl) (by kernel_rfl) (fun _ _ _ h => h) (Or.inr ⟨by rfl, rfl⟩) (by assumption) ?_
          try go_simp
          refine wpAnyH_take (i := 25) (v := undef) rfl (by kernel_rfl) (by kernel_rfl) (by kernel_rfl) (fun _ _ _ h => h) (Or.inr ⟨by rfl, rfl⟩) (by assumption) ?_
          try go_simp
          refine wpAnyH_take (i := 26) (v := undef) rfl (by kernel_rfl) (by kernel_rfl) (by kernel_rfl) (fun _ _ _ h => h) (Or.inr ⟨by rfl, rfl⟩) (by assumption) ?_
          try go_simp
          refine wpAnyH_take (i := 27) (v := undef) rfl (by kernel_rfl) (by kernel_rfl) (by kernel_rfl) (fun _ _ _ h => h) (Or.inr ⟨by rfl, rfl⟩) (by assumption) ?_
          try go_simp
          refine wpAnyH_take (i := 28) (v := ?_) rfl (by kernel_rfl) (by kernel_rfl) (by kernel_rfl) (fun _ _ _ h => h) (Or.inl ⟨by rfl, ?_⟩) (by assumption) ?_
          rotate_left
          · (intro w hSw; (try dsimp only at hSw); go_simp; try with_reducible rfl)
          try go_simp
          refine wpAnyH_done (by kernel_rfl) ?_ _
          have HBF := Lib.hid (And.right (And.right (And.right (And.right (And.right (And.right (And.right hHeld)))))))
          clear hHeld
          go_wp2_with fail
          go_ret
          exact ⟨by (rw [HXF.out]) <;> rfl, HBF.out⟩
        | some t =>
          have HTO := Lib.hid ht
          rw [ht] at HTV
          clear ht
          have hn1 : (some t).isSome = true := rfl
          cases hsm : smallF T Z
          · have HXF : Hid (x = false) := HNOX.out k hlt (item_small (by rw [HTT.out, HZZ.out]; exact hsm))
            have HSML : Hid (∀ W, Calls Tryz.prog 18 #[.int .i64 T, .int .i64 Z] W fun e w' => e = .returned (.bool false) ∧ W = w') := fun W => by rw [← hsm]; exact l2Small_any T Z W
            clear hsm
            go_wp2_with fail
            refine wp_region_held (S := (fun W' => (W'.cell? ⟨w.heap.size, 0, none⟩ = some (.slice (some ⟨g, o, none⟩) ss.length ca) ∧ W'.cell? ⟨w.heap.size, 1, none⟩ = some (.slice (some ⟨gB, oB, none⟩) ss.length cb) ∧ W'.cell? ⟨w.heap.size, 2, none⟩ = some (.slice (some ⟨gC, oC, none⟩) ss.length cc) ∧ W'.cell? ⟨g, o + k, none⟩ = some (.string s) ∧ W'.cell? ⟨gB, oB + k, none⟩ = some (.int .i64 T) ∧ W'.cell? ⟨gC, oC + k, none⟩ = some (.int .i64 Z) ∧ W'.cell? ⟨w.heap.size, 0, none⟩ = some (.slice (some ⟨g, o, none⟩) ss.length ca) ∧ Below w.heap.size w W'))) (by kernel_rfl) ?_
            change wpAnyH _ _ _ _ _ _ _ _ (World.drew _)
            have hHeld := hS7
            refine wpAnyH_take (i := 0) (v := ?_) rfl (by kernel_rfl) (by kernel_rfl) (by kernel_rfl) (fun _ _ _ h => h) (Or.inl ⟨by rfl, ?_⟩) (by assumption) ?_
            rotate_left
            · (intro w hSw; (try dsimp only at hSw); go_simp; try with_reducible rfl)
            try go_simp
            refine wpAnyH_take (i := 1) (v := ?_) rfl (by kernel_rfl) (by kernel_rfl) (by kernel_rfl) (fun _ _ _ h => h) (Or.inl ⟨by rfl, ?_⟩) (by assumption) ?_
            rotate_left
            · (intro w hSw; (try dsimp only at hSw); go_simp; try with_reducible rfl)
            try go_simp
            refine wpAnyH_take (i := 2) (v := ?_) rfl (by kernel_rfl) (by kernel_rfl) (by kernel_rfl) (fun _ _ _ h => h) (Or.inl ⟨by rfl, ?_⟩) (by assumption) ?_
            rotate_left
            · (intro w hSw; (try dsimp only at hSw); go_simp; try with_reducible rfl)
            try go_simp
            refine wpAnyH_take (i := 3) (v := ?_) rfl (by kernel_rfl) (by kernel_rfl) (by kernel_rfl) (fun _ _ _ h => h) (Or.inl ⟨by rfl, ?_⟩) (by assumption) ?_
            rotate_left
            · (intro w hSw; (try dsimp only at hSw); go_simp; try with_reducible rfl)
            try go_simp
            refine wpAnyH_take (i := 4) (v := ?_) rfl (by kernel_rfl) (by kernel_rfl) (by kernel_rfl) (fun _ _ _ h => h) (Or.inl ⟨by rfl, ?_⟩) (by assumption) ?_
            rotate_left
            · (intro w hSw; (try dsimp only at hSw); go_simp; try with_reducible rfl)
            try go_simp
            refine wpAnyH_ready (rs := [5]) (by kernel_rfl) (by simp) ?_
            refine AllReadyH.cons rfl (fun K hK => ?_) AllReadyH.nil
            go_simp
            go_wp2_with (go_at_call 17; (with_reducible refine (HTV.out _).mono ?_); rintro e wa ⟨rfl, hba⟩)
            refine hK.out _ _ ?_ (fun hHeld2 => ?_)
            · (first
                | (with_reducible assumption)
                | (with_reducible exact seven_below ‹_ ∧ _ ∧ _ ∧ _ ∧ _ ∧ _ ∧ _ ∧ Below _ _ _› hba))
            clear hK K hHeld
            have hHeld := hHeld2
            clear hHeld2
            refine wpAnyH_take (i := 6) (v := ?_) rfl (by kernel_rfl) (by kernel_rfl) (by kernel_rfl) (fun _ _ _ h => h) (Or.inl ⟨by rfl, ?_⟩) (by assumption) ?_
            rotate_left
            · (intro w hSw; (try dsimp only at hSw); go_simp; try with_reducible rfl)
            try go_simp
            refine wpAnyH_take (i := 7) (v := ?_) rfl (by kernel_rfl) (by kernel_rfl) (by kernel_rfl) (fun _ _ _ h => h) (Or.inl ⟨by rfl, ?_⟩) (by assumption) ?_
            rotate_left
            · (intro w hSw; (try dsimp only at hSw); go_simp; try with_reducible rfl)
            try go_simp
            refine wpAnyH_take (i := 8) (v := ?_) rfl (by kernel_rfl) (by kernel_rfl) (by kernel_rfl) (fun _ _ _ h => h) (Or.inl ⟨by rfl, ?_⟩) (by assumption) ?_
            rotate_left
            · (intro w hSw; (try dsimp only at hSw); go_simp; try with_reducible rfl)
            try go_simp
            refine wpAnyH_take (i := 9) (v := ?_) rfl (by kernel_rfl) (by kernel_rfl) (by kernel_rfl) (fun _ _ _ h => h) (Or.inl ⟨by rfl, ?_⟩) (by assumption) ?_
            rotate_left
            · (intro w hSw; (try dsimp only at hSw); go_simp; try with_reducible rfl)
            try go_simp
            refine wpAnyH_take (i := 10) (v := ?_) rfl (by kernel_rfl) (by kernel_rfl) (by kernel_rfl) (fun _ _ _ h => h) (Or.inl ⟨by rfl, ?_⟩) (by assumption) ?_
            rotate_left
            · (intro w hSw; (try dsimp only at hSw); go_simp; try with_reducible rfl)
            try go_simp
            refine wpAnyH_take (i := 11) (v := ?_) rfl (by kernel_rfl) (by kernel_rfl) (by kernel_rfl) (fun _ _ _ h => h) (Or.inl ⟨by rfl, ?_⟩) (by assumption) ?_
            rotate_left
            · (intro w hSw; (try dsimp only at hSw); go_simp; try with_reducible rfl)
            try go_simp
            refine wpAnyH_take (i := 12) (v := ?_) rfl (by kernel_rfl) (by kernel_rfl) (by kernel_rfl) (fun _ _ _ h => h) (Or.inl ⟨by rfl, ?_⟩) (by assumption) ?_
            rotate_left
            · (intro w hSw; (try dsimp only at hSw); go_simp; try with_reducible rfl)
            try go_simp
            refine wpAnyH_take (i := 13) (v := ?_) rfl (by kernel_rfl) (by kernel_rfl) (by kernel_rfl) (fun _ _ _ h => h) (Or.inl ⟨by rfl, ?_⟩) (by assumption) ?_
            rotate_left
            · (intro w hSw; (try dsimp only at hSw); go_simp; try with_reducible rfl)
            try go_simp
            refine wpAnyH_take (i := 14) (v := ?_) rfl (by kernel_rfl) (by kernel_rfl) (by kernel_rfl) (fun _ _ _ h => h) (Or.inl ⟨by rfl, ?_⟩) (by assumption) ?_
            rotate_left
            · (intro w hSw; (try dsimp only at hSw); go_simp; try with_reducible rfl)
            try go_simp
            refine wpAnyH_take (i := 15) (v := ?_) rfl (by kernel_rfl) (by kernel_rfl) (by kernel_rfl) (fun _ _ _ h => h) (Or.inl ⟨by rfl, ?_⟩) (by assumption) ?_
            rotate_left
            · (intro w hSw; (try dsimp only at hSw); go_simp; try with_reducible rfl)
            try go_simp
            refine wpAnyH_take (i := 16) (v := ?_) rfl (by kernel_rfl) (by kernel_rfl) (by kernel_rfl) (fun _ _ _ h => h) (Or.inl ⟨by rfl, ?_⟩) (by assumption) ?_
            rotate_left
            · (intro w hSw; (try dsimp only at hSw); go_simp; try with_reducible rfl)
            try go_simp
            refine wpAnyH_take (i := 17) (v := ?_) rfl (by kernel_rfl) (by kernel_rfl) (by kernel_rfl) (fun _ _ _ h => h) (Or.inl ⟨by rfl, ?_⟩) (by assumption) ?_
            rotate_left
            · (intro w hSw; (try dsimp only at hSw); go_simp; try with_reducible rfl)
            try go_simp
            refine wpAnyH_ready (rs := [18]) (by kernel_rfl) (by simp) ?_
            refine AllReadyH.cons rfl (fun K hK => ?_) AllReadyH.nil
            go_simp
            go_wp2_with (go_at_call 18; (with_reducible refine (HSML.out _).mono ?_); rintro e wa ⟨rfl, rfl⟩)
            refine hK.out _ _ ?_ (fun hHeld2 => ?_)
            · (first
                | (with_reducible assumption)
                | (with_reducible exact seven_below ‹_ ∧ _ ∧ _ ∧ _ ∧ _ ∧ _ ∧ _ ∧ Below _ _ _› hba))
            clear hK K hHeld
            have hHeld := hHeld2
            clear hHeld2
            refine wpAnyH_take (i := 19) (v := ?_) rfl (by kernel_rfl) (by kernel_rfl) (by kernel_rfl) (fun _ _ _ h => h) (Or.inl ⟨by rfl, ?_⟩) (by assumption) ?_
            rotate_left
            · (intro w hSw; (try dsimp only at hSw); go_simp; try with_reducible rfl)
            try go_simp
            refine wpAnyH_take (i := 20) (v := ?_) rfl (by kernel_rfl) (by kernel_rfl) (by kernel_rfl) (fun _ _ _ h => h) (Or.inl ⟨by rfl, ?_⟩) (by assumption) ?_
            rotate_left
            · (intro w hSw; (try dsimp only at hSw); go_simp; try with_reducible rfl)
            try go_simp
            refine wpAnyH_take (i := 21) (v := ?_) rfl (by kernel_rfl) (by kernel_rfl) (by kernel_rfl) (fun _ _ _ h => h) (Or.inl ⟨by rfl, ?_⟩) (by assumption) ?_
            rotate_left
            · (intro w hSw; (try dsimp only at hSw); go_simp; try with_reducible rfl)
            try go_simp
            refine wpAnyH_take (i := 22) (v := undef) rfl (by kernel_rfl) (by kernel_rfl) (by kernel_rfl) (fun _ _ _ h => h) (Or.inr ⟨by rfl, rfl⟩) (by assumption) ?_
            try go_simp
            refine wpAnyH_take (i := 23) (v := undef) rfl (by kernel_rfl) (by kernel_rfl) (by kernel_rfl) (fun _ _ _ h => h) (Or.inr ⟨by rfl, rfl⟩) (by assumption) ?_
            try go_simp
            refine wpAnyH_take (i := 24) (v := undef) rfl (by kernel_rfl) (by kernel_rfl) (by kernel_rfl) (fun _ _ _ h => h) (Or.inr ⟨by rfl, rfl⟩) (by assumption) ?_
            try go_simp
            refine wpAnyH_take (i := 25) (v := undef) rfl (by kernel_rfl) (by kernel_rfl) (by kernel_rfl) (fun _ _ _ h => h) (Or.inr ⟨by rfl, rfl⟩) (by assumption) ?_
            try go_simp
            refine wpAnyH_take (i := 26) (v := undef) rfl (by kernel_rfl) (by kernel_rfl) (by kernel_rfl) (fun _ _ _ h => h) (Or.inr ⟨by rfl, rfl⟩) (by assumption) ?_
            try go_simp
            refine wpAnyH_take (i := 27) (v := undef) rfl (by kernel_rfl) (by kernel_rfl) (by kernel_rfl) (fun _ _ _ h => h) (Or.inr ⟨by rfl, rfl⟩) (by assumption) ?_
            try go_simp
            refine wpAnyH_take (i := 28) (v := ?_) rfl (by kernel_rfl) (by kernel_rfl) (by kernel_rfl) (fun _ _ _ h => h) (Or.inl ⟨by rfl, ?_⟩) (by assumption) ?_
            rotate_left
            · (intro w hSw; (try dsimp only at hSw); go_simp; try with_reducible rfl)
            try go_simp
            refine wpAnyH_done (by kernel_rfl) ?_ _
            have HBF := Lib.hid (And.right (And.right (And.right (And.right (And.right (And.right (And.right hHeld)))))))
            clear hHeld
            go_wp2_with fail
            go_ret
            exact ⟨by (rw [HXF.out]) <;> rfl, HBF.out⟩
          · have HSML : Hid (∀ W, Calls Tryz.prog 18 #[.int .i64 T, .int .i64 Z] W fun e w' => e = .returned (.bool true) ∧ W = w') := fun W => by rw [← hsm]; exact l2Small_any T Z W
            have HSM := Lib.hid hsm
            obtain ⟨l1, l2, l3, l4⟩ := smallF_parts hsm
            have HGC : Hid (∀ W, Calls Tryz.prog 20 #[.int .i64 T, .int .i64 Z] W fun e w' => e = .returned (.int .i64 (Nat.gcd T.natAbs Z.natAbs : Nat)) ∧ W = w') := fun W => l2Gcd_any T Z W (by omega) (by omega) (by omega) (by omega)
            clear hsm
            by_cases hT0 : T = 0
            · have HXF : Hid (x = false) := HNOX.out k hlt (item_zero (HTT.out.trans hT0))
              have hT1 : (T == 0) = true := by simpa using hT0
              clear hT0
              go_wp2_with fail
              go_region_held3 (fun W' => (W'.cell? ⟨w.heap.size, 0, none⟩ = some (.slice (some ⟨g, o, none⟩) ss.length ca) ∧ W'.cell? ⟨w.heap.size, 1, none⟩ = some (.slice (some ⟨gB, oB, none⟩) ss.length cb) ∧ W'.cell? ⟨w.heap.size, 2, none⟩ = some (.slice (some ⟨gC, oC, none⟩) ss.length cc) ∧ W'.cell? ⟨g, o + k, none⟩ = some (.string s) ∧ W'.cell? ⟨gB, oB + k, none⟩ = some (.int .i64 T) ∧ W'.cell? ⟨gC, oC + k, none⟩ = some (.int .i64 Z) ∧ W'.cell? ⟨w.heap.size, 0, none⟩ = some (.slice (some ⟨g, o, none⟩) ss.length ca) ∧ Below w.heap.size w W'))
                (first
                  | (with_reducible assumption)
                  | (with_reducible exact seven_below ‹_ ∧ _ ∧ _ ∧ _ ∧ _ ∧ _ ∧ _ ∧ Below _ _ _› hba))
                (first
                  | (go_at_call 17; (with_reducible refine (HTV.out _).mono ?_); rintro e wa ⟨rfl, hba⟩)
                  | (go_at_call 18; (with_reducible refine (HSML.out _).mono ?_); rintro e wa ⟨rfl, rfl⟩))
              all_goals
                have hS := ‹_ ∧ _ ∧ _ ∧ _ ∧ _ ∧ _ ∧ _ ∧ Below _ _ _›
                have HBF := Lib.hid (And.right (And.right (And.right (And.right (And.right (And.right (And.right hS)))))))
                clear hS
                go_wp2_with fail
                go_ret
                exact ⟨by (rw [HXF.out]) <;> rfl, HBF.out⟩
            · have hT1 : (T == 0) = false := by simpa using hT0
              go_wp2_with fail
              go_region_held3 (fun W' => (W'.cell? ⟨w.heap.size, 0, none⟩ = some (.slice (some ⟨g, o, none⟩) ss.length ca) ∧ W'.cell? ⟨w.heap.size, 1, none⟩ = some (.slice (some ⟨gB, oB, none⟩) ss.length cb) ∧ W'.cell? ⟨w.heap.size, 2, none⟩ = some (.slice (some ⟨gC, oC, none⟩) ss.length cc) ∧ W'.cell? ⟨g, o + k, none⟩ = some (.string s) ∧ W'.cell? ⟨gB, oB + k, none⟩ = some (.int .i64 T) ∧ W'.cell? ⟨gC, oC + k, none⟩ = some (.int .i64 Z) ∧ W'.cell? ⟨w.heap.size, 0, none⟩ = some (.slice (some ⟨g, o, none⟩) ss.length ca) ∧ Below w.heap.size w W'))
                (first
                  | (with_reducible assumption)
                  | (with_reducible exact seven_below ‹_ ∧ _ ∧ _ ∧ _ ∧ _ ∧ _ ∧ _ ∧ Below _ _ _› hba))
                (first
                  | (go_at_call 17; (with_reducible refine (HTV.out _).mono ?_); rintro e wa ⟨rfl, hba⟩)
                  | (go_at_call 18; (with_reducible refine (HSML.out _).mono ?_); rintro e wa ⟨rfl, rfl⟩))
              all_goals
                have hS7b := ‹_ ∧ _ ∧ _ ∧ _ ∧ _ ∧ _ ∧ _ ∧ Below _ _ _›
                have HS7B := Lib.hid hS7b
                go_wp2_with fail
                have hord : k = 0 ∨ (∃ k' sP, k = k' + 1 ∧ ss[k']? = some sP) := by
                  by_cases h0 : k = 0
                  · exact .inl h0
                  · exact .inr ⟨k - 1, ss[k - 1], by omega, List.getElem?_eq_getElem (by omega)⟩
                have hS9 := seven_drew hS7b
                clear hS7b
                rcases hord with h0 | ⟨k', sP, hk', hsP⟩
                · have HO : Hid (k = 0 ∨ ltB (sAt ss (k - 1)) (sAt ss k) = true) := .inl h0
                  have d5 : decide ((k : Int) > 0) = false := by rw [decide_eq_false_iff_not]; omega
                  have d6 : ¬ 0 < k := by omega
                  have d7 : decide (0 < k) = false := by simpa using d6
                  clear h0
                  by_cases hgcd : Nat.gcd T.natAbs Z.natAbs = 1
                  · have HI : Hid (itemOk ss ts bs k = true) := item_yes (by rw [HSA.out]; exact HTO.out) (by rw [HTT.out, HZZ.out]; exact HSM.out) (by rw [HTT.out]; exact hT0) HO.out (by rw [HTT.out, HZZ.out]; exact hgcd)
                    have HOKN : Hid (∀ i, i < k + 1 → itemOk ss ts bs i = true) := fun i hi => by
                      by_cases e : i = k
                      · subst e; exact HI.out
                      · exact HOK.out i (by omega)
                    have hgi : (((Nat.gcd T.natAbs Z.natAbs : Nat) : Int) != 1) = false := by rw [hgcd]; rfl
                    clear hgcd
                    refine wp_region_held (S := (fun W' => (W'.cell? ⟨w.heap.size, 0, none⟩ = some (.slice (some ⟨g, o, none⟩) ss.length ca) ∧ W'.cell? ⟨w.heap.size, 1, none⟩ = some (.slice (some ⟨gB, oB, none⟩) ss.length cb) ∧ W'.cell? ⟨w.heap.size, 2, none⟩ = some (.slice (some ⟨gC, oC, none⟩) ss.length cc) ∧ W'.cell? ⟨g, o + k, none⟩ = some (.string s) ∧ W'.cell? ⟨gB, oB + k, none⟩ = some (.int .i64 T) ∧ W'.cell? ⟨gC, oC + k, none⟩ = some (.int .i64 Z) ∧ W'.cell? ⟨w.heap.size, 0, none⟩ = some (.slice (some ⟨g, o, none⟩) ss.length ca) ∧ Below w.heap.size w W'))) (by kernel_rfl) ?_
                    change wpAnyH _ _ _ _ _ _ _ _ (World.drew _)
                    have hHeld := hS9
                    refine wpAnyH_take (i := 0) (v := ?_) rfl (by kernel_rfl) (by kernel_rfl) (by kernel_rfl) (fun _ _ _ h => h) (Or.inl ⟨by rfl, ?_⟩) (by assumption) ?_
                    rotate_left
                    · (intro w hSw; (try dsimp only at hSw); go_simp; try with_reducible rfl)
                    try go_simp
                    refine wpAnyH_take (i := 1) (v := ?_) rfl (by kernel_rfl) (by kernel_rfl) (by kernel_rfl) (fun _ _ _ h => h) (Or.inl ⟨by rfl, ?_⟩) (by assumption) ?_
                    rotate_left
                    · (intro w hSw; (try dsimp only at hSw); go_simp; try with_reducible rfl)
                    try go_simp
                    refine wpAnyH_take (i := 2) (v := ?_) rfl (by kernel_rfl) (by kernel_rfl) (by kernel_rfl) (fun _ _ _ h => h) (Or.inl ⟨by rfl, ?_⟩) (by assumption) ?_
                    rotate_left
                    · (intro w hSw; (try dsimp only at hSw); go_simp; try with_reducible rfl)
                    try go_simp
                    refine wpAnyH_take (i := 3) (v := undef) rfl (by kernel_rfl) (by kernel_rfl) (by kernel_rfl) (fun _ _ _ h => h) (Or.inr ⟨by rfl, rfl⟩) (by assumption) ?_
                    try go_simp
                    refine wpAnyH_take (i := 4) (v := undef) rfl (by kernel_rfl) (by kernel_rfl) (by kernel_rfl) (fun _ _ _ h => h) (Or.inr ⟨by rfl, rfl⟩) (by assumption) ?_
                    try go_simp
                    refine wpAnyH_take (i := 5) (v := undef) rfl (by kernel_rfl) (by kernel_rfl) (by kernel_rfl) (fun _ _ _ h => h) (Or.inr ⟨by rfl, rfl⟩) (by assumption) ?_
                    try go_simp
                    refine wpAnyH_take (i := 6) (v := undef) rfl (by kernel_rfl) (by kernel_rfl) (by kernel_rfl) (fun _ _ _ h => h) (Or.inr ⟨by rfl, rfl⟩) (by assumption) ?_
                    try go_simp
                    refine wpAnyH_take (i := 7) (v := undef) rfl (by kernel_rfl) (by kernel_rfl) (by kernel_rfl) (fun _ _ _ h => h) (Or.inr ⟨by rfl, rfl⟩) (by assumption) ?_
                    try go_simp
                    refine wpAnyH_take (i := 8) (v := undef) rfl (by kernel_rfl) (by kernel_rfl) (by kernel_rfl) (fun _ _ _ h => h) (Or.inr ⟨by rfl, rfl⟩) (by assumption) ?_
                    try go_simp
                    refine wpAnyH_take (i := 9) (v := undef) rfl (by kernel_rfl) (by kernel_rfl) (by kernel_rfl) (fun _ _ _ h => h) (Or.inr ⟨by rfl, rfl⟩) (by assumption) ?_
                    try go_simp
                    refine wpAnyH_take (i := 10) (v := undef) rfl (by kernel_rfl) (by kernel_rfl) (by kernel_rfl) (fun _ _ _ h => h) (Or.inr ⟨by rfl, rfl⟩) (by assumption) ?_
                    try go_simp
                    refine wpAnyH_take (i := 11) (v := undef) rfl (by kernel_rfl) (by kernel_rfl) (by kernel_rfl) (fun _ _ _ h => h) (Or.inr ⟨by rfl, rfl⟩) (by assumption) ?_
                    try go_simp
                    refine wpAnyH_take (i := 12) (v := undef) rfl (by kernel_rfl) (by kernel_rfl) (by kernel_rfl) (fun _ _ _ h => h) (Or.inr ⟨by rfl, rfl⟩) (by assumption) ?_
                    try go_simp
                    refine wpAnyH_take (i := 13) (v := undef) rfl (by kernel_rfl) (by kernel_rfl) (by kernel_rfl) (fun _ _ _ h => h) (Or.inr ⟨by rfl, rfl⟩) (by assumption) ?_
                    try go_simp
                    refine wpAnyH_take (i := 14) (v := undef) rfl (by kernel_rfl) (by kernel_rfl) (by kernel_rfl) (fun _ _ _ h => h) (Or.inr ⟨by rfl, rfl⟩) (by assumption) ?_
                    try go_simp
                    refine wpAnyH_take (i := 15) (v := undef) rfl (by kernel_rfl) (by kernel_rfl) (by kernel_rfl) (fun _ _ _ h => h) (Or.inr ⟨by rfl, rfl⟩) (by assumption) ?_
                    try go_simp
                    refine wpAnyH_take (i := 16) (v := ?_) rfl (by kernel_rfl) (by kernel_rfl) (by kernel_rfl) (fun _ _ _ h => h) (Or.inl ⟨by rfl, ?_⟩) (by assumption) ?_
                    rotate_left
                    · (intro w hSw; (try dsimp only at hSw); go_simp; try with_reducible rfl)
                    try go_simp
                    refine wpAnyH_take (i := 17) (v := ?_) rfl (by kernel_rfl) (by kernel_rfl) (by kernel_rfl) (fun _ _ _ h => h) (Or.inl ⟨by rfl, ?_⟩) (by assumption) ?_
                    rotate_left
                    · (intro w hSw; (try dsimp only at hSw); go_simp; try with_reducible rfl)
                    try go_simp
                    refine wpAnyH_take (i := 18) (v := ?_) rfl (by kernel_rfl) (by kernel_rfl) (by kernel_rfl) (fun _ _ _ h => h) (Or.inl ⟨by rfl, ?_⟩) (by assumption) ?_
                    rotate_left
                    · (intro w hSw; (try dsimp only at hSw); go_simp; try with_reducible rfl)
                    try go_simp
                    refine wpAnyH_take (i := 19) (v := ?_) rfl (by kernel_rfl) (by kernel_rfl) (by kernel_rfl) (fun _ _ _ h => h) (Or.inl ⟨by rfl, ?_⟩) (by assumption) ?_
                    rotate_left
                    · (intro w hSw; (try dsimp only at hSw); go_simp; try with_reducible rfl)
                    try go_simp
                    refine wpAnyH_take (i := 20) (v := ?_) rfl (by kernel_rfl) (by kernel_rfl) (by kernel_rfl) (fun _ _ _ h => h) (Or.inl ⟨by rfl, ?_⟩) (by assumption) ?_
                    rotate_left
                    · (intro w hSw; (try dsimp only at hSw); go_simp; try with_reducible rfl)
                    try go_simp
                    refine wpAnyH_take (i := 21) (v := ?_) rfl (by kernel_rfl) (by kernel_rfl) (by kernel_rfl) (fun _ _ _ h => h) (Or.inl ⟨by rfl, ?_⟩) (by assumption) ?_
                    rotate_left
                    · (intro w hSw; (try dsimp only at hSw); go_simp; try with_reducible rfl)
                    try go_simp
                    refine wpAnyH_take (i := 22) (v := ?_) rfl (by kernel_rfl) (by kernel_rfl) (by kernel_rfl) (fun _ _ _ h => h) (Or.inl ⟨by rfl, ?_⟩) (by assumption) ?_
                    rotate_left
                    · (intro w hSw; (try dsimp only at hSw); go_simp; try with_reducible rfl)
                    try go_simp
                    refine wpAnyH_take (i := 23) (v := ?_) rfl (by kernel_rfl) (by kernel_rfl) (by kernel_rfl) (fun _ _ _ h => h) (Or.inl ⟨by rfl, ?_⟩) (by assumption) ?_
                    rotate_left
                    · (intro w hSw; (try dsimp only at hSw); go_simp; try with_reducible rfl)
                    try go_simp
                    refine wpAnyH_take (i := 24) (v := ?_) rfl (by kernel_rfl) (by kernel_rfl) (by kernel_rfl) (fun _ _ _ h => h) (Or.inl ⟨by rfl, ?_⟩) (by assumption) ?_
                    rotate_left
                    · (intro w hSw; (try dsimp only at hSw); go_simp; try with_reducible rfl)
                    try go_simp
                    refine wpAnyH_take (i := 25) (v := ?_) rfl (by kernel_rfl) (by kernel_rfl) (by kernel_rfl) (fun _ _ _ h => h) (Or.inl ⟨by rfl, ?_⟩) (by assumption) ?_
                    rotate_left
                    · (intro w hSw; (try dsimp only at hSw); go_simp; try with_reducible rfl)
                    try go_simp
                    refine wpAnyH_take (i := 26) (v := ?_) rfl (by kernel_rfl) (by kernel_rfl) (by kernel_rfl) (fun _ _ _ h => h) (Or.inl ⟨by rfl, ?_⟩) (by assumption) ?_
                    rotate_left
                    · (intro w hSw; (try dsimp only at hSw); go_simp; try with_reducible rfl)
                    try go_simp
                    refine wpAnyH_take (i := 27) (v := ?_) rfl (by kernel_rfl) (by kernel_rfl) (by kernel_rfl) (fun _ _ _ h => h) (Or.inl ⟨by rfl, ?_⟩) (by assumption) ?_
                    rotate_left
                    · (intro w hSw; (try dsimp only at hSw); go_simp; try with_reducible rfl)
                    try go_simp
                    refine wpAnyH_ready (rs := [28]) (by kernel_rfl) (by simp) ?_
                    refine AllReadyH.cons rfl (fun K hK => ?_) AllReadyH.nil
                    go_simp
                    go_wp2_with (go_at_call 20; (with_reducible refine (HGC.out _).mono ?_); rintro e wa ⟨rfl, rfl⟩)
                    refine hK.out _ _ ?_ (fun hHeld2 => ?_)
                    · (first
                        | (with_reducible assumption)
                        | (with_reducible exact seven_below ‹_ ∧ _ ∧ _ ∧ _ ∧ _ ∧ _ ∧ _ ∧ Below _ _ _› hba))
                    clear hK K hHeld
                    have hHeld := hHeld2
                    clear hHeld2
                    refine wpAnyH_take (i := 29) (v := ?_) rfl (by kernel_rfl) (by kernel_rfl) (by kernel_rfl) (fun _ _ _ h => h) (Or.inl ⟨by rfl, ?_⟩) (by assumption) ?_
                    rotate_left
                    · (intro w hSw; (try dsimp only at hSw); go_simp; try with_reducible rfl)
                    try go_simp
                    refine wpAnyH_take (i := 30) (v := ?_) rfl (by kernel_rfl) (by kernel_rfl) (by kernel_rfl) (fun _ _ _ h => h) (Or.inl ⟨by rfl, ?_⟩) (by assumption) ?_
                    rotate_left
                    · (intro w hSw; (try dsimp only at hSw); go_simp; try with_reducible rfl)
                    try go_simp
                    refine wpAnyH_done (by kernel_rfl) ?_ _
                    have HBF := Lib.hid (And.right (And.right (And.right (And.right (And.right (And.right (And.right hHeld)))))))
                    have HBX := Lib.hid hHeld
                    clear hHeld
                    go_wp2_with fail
                    go_roundw
                    case rel => exact ⟨k + 1, by omega, by go_num, HOKN.out, HBF.out, ⟨HBX.out.1, HBX.out.2.1, HBX.out.2.2.1⟩⟩
                    case measure => simp [intOf]; omega
                  · have HXF : Hid (x = false) := HNOX.out k hlt (item_low (by rw [HTT.out, HZZ.out]; exact hgcd))
                    have hgi : (((Nat.gcd T.natAbs Z.natAbs : Nat) : Int) != 1) = true := by simp; omega
                    clear hgcd
                    refine wp_region_held (S := (fun W' => (W'.cell? ⟨w.heap.size, 0, none⟩ = some (.slice (some ⟨g, o, none⟩) ss.length ca) ∧ W'.cell? ⟨w.heap.size, 1, none⟩ = some (.slice (some ⟨gB, oB, none⟩) ss.length cb) ∧ W'.cell? ⟨w.heap.size, 2, none⟩ = some (.slice (some ⟨gC, oC, none⟩) ss.length cc) ∧ W'.cell? ⟨g, o + k, none⟩ = some (.string s) ∧ W'.cell? ⟨gB, oB + k, none⟩ = some (.int .i64 T) ∧ W'.cell? ⟨gC, oC + k, none⟩ = some (.int .i64 Z) ∧ W'.cell? ⟨w.heap.size, 0, none⟩ = some (.slice (some ⟨g, o, none⟩) ss.length ca) ∧ Below w.heap.size w W'))) (by kernel_rfl) ?_
                    change wpAnyH _ _ _ _ _ _ _ _ (World.drew _)
                    have hHeld := hS9
                    refine wpAnyH_take (i := 0) (v := ?_) rfl (by kernel_rfl) (by kernel_rfl) (by kernel_rfl) (fun _ _ _ h => h) (Or.inl ⟨by rfl, ?_⟩) (by assumption) ?_
                    rotate_left
                    · (intro w hSw; (try dsimp only at hSw); go_simp; try with_reducible rfl)
                    try go_simp
                    refine wpAnyH_take (i := 1) (v := ?_) rfl (by kernel_rfl) (by kernel_rfl) (by kernel_rfl) (fun _ _ _ h => h) (Or.inl ⟨by rfl, ?_⟩) (by assumption) ?_
                    rotate_left
                    · (intro w hSw; (try dsimp only at hSw); go_simp; try with_reducible rfl)
                    try go_simp
                    refine wpAnyH_take (i := 2) (v := ?_) rfl (by kernel_rfl) (by kernel_rfl) (by kernel_rfl) (fun _ _ _ h => h) (Or.inl ⟨by rfl, ?_⟩) (by assumption) ?_
                    rotate_left
                    · (intro w hSw; (try dsimp only at hSw); go_simp; try with_reducible rfl)
                    try go_simp
                    refine wpAnyH_take (i := 3) (v := undef) rfl (by kernel_rfl) (by kernel_rfl) (by kernel_rfl) (fun _ _ _ h => h) (Or.inr ⟨by rfl, rfl⟩) (by assumption) ?_
                    try go_simp
                    refine wpAnyH_take (i := 4) (v := undef) rfl (by kernel_rfl) (by kernel_rfl) (by kernel_rfl) (fun _ _ _ h => h) (Or.inr ⟨by rfl, rfl⟩) (by assumption) ?_
                    try go_simp
                    refine wpAnyH_take (i := 5) (v := undef) rfl (by kernel_rfl) (by kernel_rfl) (by kernel_rfl) (fun _ _ _ h => h) (Or.inr ⟨by rfl, rfl⟩) (by assumption) ?_
                    try go_simp
                    refine wpAnyH_take (i := 6) (v := undef) rfl (by kernel_rfl) (by kernel_rfl) (by kernel_rfl) (fun _ _ _ h => h) (Or.inr ⟨by rfl, rfl⟩) (by assumption) ?_
                    try go_simp
                    refine wpAnyH_take (i := 7) (v := undef) rfl (by kernel_rfl) (by kernel_rfl) (by kernel_rfl) (fun _ _ _ h => h) (Or.inr ⟨by rfl, rfl⟩) (by assumption) ?_
                    try go_simp
                    refine wpAnyH_take (i := 8) (v := undef) rfl (by kernel_rfl) (by kernel_rfl) (by kernel_rfl) (fun _ _ _ h => h) (Or.inr ⟨by rfl, rfl⟩) (by assumption) ?_
                    try go_simp
                    refine wpAnyH_take (i := 9) (v := undef) rfl (by kernel_rfl) (by kernel_rfl) (by kernel_rfl) (fun _ _ _ h => h) (Or.inr ⟨by rfl, rfl⟩) (by assumption) ?_
                    try go_simp
                    refine wpAnyH_take (i := 10) (v := undef) rfl (by kernel_rfl) (by kernel_rfl) (by kernel_rfl) (fun _ _ _ h => h) (Or.inr ⟨by rfl, rfl⟩) (by assumption) ?_
                    try go_simp
                    refine wpAnyH_take (i := 11) (v := undef) rfl (by kernel_rfl) (by kernel_rfl) (by kernel_rfl) (fun _ _ _ h => h) (Or.inr ⟨by rfl, rfl⟩) (by assumption) ?_
                    try go_simp
                    refine wpAnyH_take (i := 12) (v := undef) rfl (by kernel_rfl) (by kernel_rfl) (by kernel_rfl) (fun _ _ _ h => h) (Or.inr ⟨by rfl, rfl⟩) (by assumption) ?_
                    try go_simp
                    refine wpAnyH_take (i := 13) (v := undef) rfl (by kernel_rfl) (by kernel_rfl) (by kernel_rfl) (fun _ _ _ h => h) (Or.inr ⟨by rfl, rfl⟩) (by assumption) ?_
                    try go_simp
                    refine wpAnyH_take (i := 14) (v := undef) rfl (by kernel_rfl) (by kernel_rfl) (by kernel_rfl) (fun _ _ _ h => h) (Or.inr ⟨by rfl, rfl⟩) (by assumption) ?_
                    try go_simp
                    refine wpAnyH_take (i := 15) (v := undef) rfl (by kernel_rfl) (by kernel_rfl) (by kernel_rfl) (fun _ _ _ h => h) (Or.inr ⟨by rfl, rfl⟩) (by assumption) ?_
                    try go_simp
                    refine wpAnyH_take (i := 16) (v := ?_) rfl (by kernel_rfl) (by kernel_rfl) (by kernel_rfl) (fun _ _ _ h => h) (Or.inl ⟨by rfl, ?_⟩) (by assumption) ?_
                    rotate_left
                    · (intro w hSw; (try dsimp only at hSw); go_simp; try with_reducible rfl)
                    try go_simp
                    refine wpAnyH_take (i := 17) (v := ?_) rfl (by kernel_rfl) (by kernel_rfl) (by kernel_rfl) (fun _ _ _ h => h) (Or.inl ⟨by rfl, ?_⟩) (by assumption) ?_
                    rotate_left
                    · (intro w hSw; (try dsimp only at hSw); go_simp; try with_reducible rfl)
                    try go_simp
                    refine wpAnyH_take (i := 18) (v := ?_) rfl (by kernel_rfl) (by kernel_rfl) (by kernel_rfl) (fun _ _ _ h => h) (Or.inl ⟨by rfl, ?_⟩) (by assumption) ?_
                    rotate_left
                    · (intro w hSw; (try dsimp only at hSw); go_simp; try with_reducible rfl)
                    try go_simp
                    refine wpAnyH_take (i := 19) (v := ?_) rfl (by kernel_rfl) (by kernel_rfl) (by kernel_rfl) (fun _ _ _ h => h) (Or.inl ⟨by rfl, ?_⟩) (by assumption) ?_
                    rotate_left
                    · (intro w hSw; (try dsimp only at hSw); go_simp; try with_reducible rfl)
                    try go_simp
                    refine wpAnyH_take (i := 20) (v := ?_) rfl (by kernel_rfl) (by kernel_rfl) (by kernel_rfl) (fun _ _ _ h => h) (Or.inl ⟨by rfl, ?_⟩) (by assumption) ?_
                    rotate_left
                    · (intro w hSw; (try dsimp only at hSw); go_simp; try with_reducible rfl)
                    try go_simp
                    refine wpAnyH_take (i := 21) (v := ?_) rfl (by kernel_rfl) (by kernel_rfl) (by kernel_rfl) (fun _ _ _ h => h) (Or.inl ⟨by rfl, ?_⟩) (by assumption) ?_
                    rotate_left
                    · (intro w hSw; (try dsimp only at hSw); go_simp; try with_reducible rfl)
                    try go_simp
                    refine wpAnyH_take (i := 22) (v := ?_) rfl (by kernel_rfl) (by kernel_rfl) (by kernel_rfl) (fun _ _ _ h => h) (Or.inl ⟨by rfl, ?_⟩) (by assumption) ?_
                    rotate_left
                    · (intro w hSw; (try dsimp only at hSw); go_simp; try with_reducible rfl)
                    try go_simp
                    refine wpAnyH_take (i := 23) (v := ?_) rfl (by kernel_rfl) (by kernel_rfl) (by kernel_rfl) (fun _ _ _ h => h) (Or.inl ⟨by rfl, ?_⟩) (by assumption) ?_
                    rotate_left
                    · (intro w hSw; (try dsimp only at hSw); go_simp; try with_reducible rfl)
                    try go_simp
                    refine wpAnyH_take (i := 24) (v := ?_) rfl (by kernel_rfl) (by kernel_rfl) (by kernel_rfl) (fun _ _ _ h => h) (Or.inl ⟨by rfl, ?_⟩) (by assumption) ?_
                    rotate_left
                    · (intro w hSw; (try dsimp only at hSw); go_simp; try with_reducible rfl)
                    try go_simp
                    refine wpAnyH_take (i := 25) (v := ?_) rfl (by kernel_rfl) (by kernel_rfl) (by kernel_rfl) (fun _ _ _ h => h) (Or.inl ⟨by rfl, ?_⟩) (by assumption) ?_
                    rotate_left
                    · (intro w hSw; (try dsimp only at hSw); go_simp; try with_reducible rfl)
                    try go_simp
                    refine wpAnyH_take (i := 26) (v := ?_) rfl (by kernel_rfl) (by kernel_rfl) (by kernel_rfl) (fun _ _ _ h => h) (Or.inl ⟨by rfl, ?_⟩) (by assumption) ?_
                    rotate_left
                    · (intro w hSw; (try dsimp only at hSw); go_simp; try with_reducible rfl)
                    try go_simp
                    refine wpAnyH_take (i := 27) (v := ?_) rfl (by kernel_rfl) (by kernel_rfl) (by kernel_rfl) (fun _ _ _ h => h) (Or.inl ⟨by rfl, ?_⟩) (by assumption) ?_
                    rotate_left
                    · (intro w hSw; (try dsimp only at hSw); go_simp; try with_reducible rfl)
                    try go_simp
                    refine wpAnyH_ready (rs := [28]) (by kernel_rfl) (by simp) ?_
                    refine AllReadyH.cons rfl (fun K hK => ?_) AllReadyH.nil
                    go_simp
                    go_wp2_with (go_at_call 20; (with_reducible refine (HGC.out _).mono ?_); rintro e wa ⟨rfl, rfl⟩)
                    refine hK.out _ _ ?_ (fun hHeld2 => ?_)
                    · (first
                        | (with_reducible assumption)
                        | (with_reducible exact seven_below ‹_ ∧ _ ∧ _ ∧ _ ∧ _ ∧ _ ∧ _ ∧ Below _ _ _› hba))
                    clear hK K hHeld
                    have hHeld := hHeld2
                    clear hHeld2
                    refine wpAnyH_take (i := 29) (v := ?_) rfl (by kernel_rfl) (by kernel_rfl) (by kernel_rfl) (fun _ _ _ h => h) (Or.inl ⟨by rfl, ?_⟩) (by assumption) ?_
                    rotate_left
                    · (intro w hSw; (try dsimp only at hSw); go_simp; try with_reducible rfl)
                    try go_simp
                    refine wpAnyH_take (i := 30) (v := ?_) rfl (by kernel_rfl) (by kernel_rfl) (by kernel_rfl) (fun _ _ _ h => h) (Or.inl ⟨by rfl, ?_⟩) (by assumption) ?_
                    rotate_left
                    · (intro w hSw; (try dsimp only at hSw); go_simp; try with_reducible rfl)
                    try go_simp
                    refine wpAnyH_done (by kernel_rfl) ?_ _
                    have HBF := Lib.hid (And.right (And.right (And.right (And.right (And.right (And.right (And.right hHeld)))))))
                    clear hHeld
                    go_wp2_with fail
                    go_ret
                    exact ⟨by (rw [HXF.out]) <;> rfl, HBF.out⟩
                · subst hk'
                  have d5 : decide (((k' + 1 : Nat) : Int) > 0) = true := by rw [decide_eq_true_eq]; omega
                  have hix : IntKind.i64.wrap (k' : Int) = (k' : Int) := IntWalk.i64_in _ (by omega)
                  have hix2 : IntKind.i64.wrap (((k' + 1 : Nat) : Int) - 1) = (k' : Int) := by rw [show (((k' + 1 : Nat) : Int) - 1) = (k' : Int) by omega]; exact hix
                  have HBW := Lib.hid (And.right (And.right (And.right (And.right (And.right (And.right (And.right HS7B.out)))))))
                  obtain ⟨gA', oA', eA', eA⟩ := (HA.out.below HBW.out) k' sP hsP
                  injection eA' with eA'; injection eA' with q1 q2; subst q1; subst q2
                  have hsP' : sAt ss (k' + 1 - 1) = sP.data.toList := by unfold sAt; rw [show k' + 1 - 1 = k' by omega, List.getD, hsP]; rfl
                  have hszP := HS.out sP (List.mem_of_getElem? hsP)
                  have HLE : Hid (∀ W, Calls Tryz.prog 19 #[.string sP, .string s] W fun e w' => e = .returned (.bool (ltB (sAt ss (k' + 1 - 1)) (sAt ss (k' + 1)))) ∧ Below W.heap.size W w') := fun W => by
                    rw [hsP', HSA.out]
                    exact (l1Less_any sP s W hszP hsz).mono fun e w' ⟨h1, h2⟩ => ⟨h1, h2.below _⟩
                  have hi1 : (k' : Int) < (ss.length : Int) := by omega
                  have hi3 : (k' : Int) + 1 < (ss.length : Int) := by omega
                  have hi4 : (0 : Int) ≤ (k' : Int) + 1 := by omega
                  have hi5 : IntKind.i64.wrap ((k' : Int) + 1) = (k' : Int) + 1 := IntWalk.i64_in _ (by omega)
                  have hi6 : ((k' : Int) + 1).toNat = k' + 1 := by omega
                  have hS9' := seven_drew (w0 := w) ⟨HS7B.out.1, HS7B.out.2.1, HS7B.out.2.2.1, HS7B.out.2.2.2.1, HS7B.out.2.2.2.2.1, HS7B.out.2.2.2.2.2.1, eA, HBW.out⟩
                  clear hsP' hsP hS9 eA
                  cases hlo : ltB (sAt ss (k' + 1 - 1)) (sAt ss (k' + 1))
                  · have HXF : Hid (x = false) := HNOX.out (k' + 1) hlt (item_order (by omega) hlo)
                    rw [hlo] at HLE
                    clear hlo
                    refine wp_region_held (S := (fun W' => (W'.cell? ⟨w.heap.size, 0, none⟩ = some (.slice (some ⟨g, o, none⟩) ss.length ca) ∧ W'.cell? ⟨w.heap.size, 1, none⟩ = some (.slice (some ⟨gB, oB, none⟩) ss.length cb) ∧ W'.cell? ⟨w.heap.size, 2, none⟩ = some (.slice (some ⟨gC, oC, none⟩) ss.length cc) ∧ W'.cell? ⟨g, o + (k' + 1), none⟩ = some (.string s) ∧ W'.cell? ⟨gB, oB + (k' + 1), none⟩ = some (.int .i64 T) ∧ W'.cell? ⟨gC, oC + (k' + 1), none⟩ = some (.int .i64 Z) ∧ W'.cell? ⟨g, o + k', none⟩ = some (.string sP) ∧ Below w.heap.size w W'))) (by kernel_rfl) ?_
                    change wpAnyH _ _ _ _ _ _ _ _ (World.drew _)
                    have hHeld := hS9'
                    refine wpAnyH_take (i := 0) (v := ?_) rfl (by kernel_rfl) (by kernel_rfl) (by kernel_rfl) (fun _ _ _ h => h) (Or.inl ⟨by rfl, ?_⟩) (by assumption) ?_
                    rotate_left
                    · (intro w hSw; (try dsimp only at hSw); go_simp; try with_reducible rfl)
                    try go_simp
                    refine wpAnyH_take (i := 1) (v := ?_) rfl (by kernel_rfl) (by kernel_rfl) (by kernel_rfl) (fun _ _ _ h => h) (Or.inl ⟨by rfl, ?_⟩) (by assumption) ?_
                    rotate_left
                    · (intro w hSw; (try dsimp only at hSw); go_simp; try with_reducible rfl)
                    try go_simp
                    refine wpAnyH_take (i := 2) (v := ?_) rfl (by kernel_rfl) (by kernel_rfl) (by kernel_rfl) (fun _ _ _ h => h) (Or.inl ⟨by rfl, ?_⟩) (by assumption) ?_
                    rotate_left
                    · (intro w hSw; (try dsimp only at hSw); go_simp; try with_reducible rfl)
                    try go_simp
                    refine wpAnyH_take (i := 3) (v := ?_) rfl (by kernel_rfl) (by kernel_rfl) (by kernel_rfl) (fun _ _ _ h => h) (Or.inl ⟨by rfl, ?_⟩) (by assumption) ?_
                    rotate_left
                    · (intro w hSw; (try dsimp only at hSw); go_simp; try with_reducible rfl)
                    try go_simp
                    refine wpAnyH_take (i := 4) (v := ?_) rfl (by kernel_rfl) (by kernel_rfl) (by kernel_rfl) (fun _ _ _ h => h) (Or.inl ⟨by rfl, ?_⟩) (by assumption) ?_
                    rotate_left
                    · (intro w hSw; (try dsimp only at hSw); go_simp; try with_reducible rfl)
                    try go_simp
                    refine wpAnyH_take (i := 5) (v := ?_) rfl (by kernel_rfl) (by kernel_rfl) (by kernel_rfl) (fun _ _ _ h => h) (Or.inl ⟨by rfl, ?_⟩) (by assumption) ?_
                    rotate_left
                    · (intro w hSw; (try dsimp only at hSw); go_simp; try with_reducible rfl)
                    try go_simp
                    refine wpAnyH_take (i := 6) (v := ?_) rfl (by kernel_rfl) (by kernel_rfl) (by kernel_rfl) (fun _ _ _ h => h) (Or.inl ⟨by rfl, ?_⟩) (by assumption) ?_
                    rotate_left
                    · (intro w hSw; (try dsimp only at hSw); go_simp; try with_reducible rfl)
                    try go_simp
                    refine wpAnyH_take (i := 7) (v := ?_) rfl (by kernel_rfl) (by kernel_rfl) (by kernel_rfl) (fun _ _ _ h => h) (Or.inl ⟨by rfl, ?_⟩) (by assumption) ?_
                    rotate_left
                    · (intro w hSw; (try dsimp only at hSw); go_simp; try with_reducible rfl)
                    try go_simp
                    refine wpAnyH_take (i := 8) (v := ?_) rfl (by kernel_rfl) (by kernel_rfl) (by kernel_rfl) (fun _ _ _ h => h) (Or.inl ⟨by rfl, ?_⟩) (by assumption) ?_
                    rotate_left
                    · (intro w hSw; (try dsimp only at hSw); go_simp; try with_reducible rfl)
                    try go_simp
                    refine wpAnyH_take (i := 9) (v := ?_) rfl (by kernel_rfl) (by kernel_rfl) (by kernel_rfl) (fun _ _ _ h => h) (Or.inl ⟨by rfl, ?_⟩) (by assumption) ?_
                    rotate_left
                    · (intro w hSw; (try dsimp only at hSw); go_simp; try with_reducible rfl)
                    try go_simp
                    refine wpAnyH_take (i := 10) (v := ?_) rfl (by kernel_rfl) (by kernel_rfl) (by kernel_rfl) (fun _ _ _ h => h) (Or.inl ⟨by rfl, ?_⟩) (by assumption) ?_
                    rotate_left
                    · (intro w hSw; (try dsimp only at hSw); go_simp; try with_reducible rfl)
                    try go_simp
                    refine wpAnyH_take (i := 11) (v := ?_) rfl (by kernel_rfl) (by kernel_rfl) (by kernel_rfl) (fun _ _ _ h => h) (Or.inl ⟨by rfl, ?_⟩) (by assumption) ?_
                    rotate_left
                    · (intro w hSw; (try dsimp only at hSw); go_simp; try with_reducible rfl)
                    try go_simp
                    refine wpAnyH_take (i := 12) (v := ?_) rfl (by kernel_rfl) (by kernel_rfl) (by kernel_rfl) (fun _ _ _ h => h) (Or.inl ⟨by rfl, ?_⟩) (by assumption) ?_
                    rotate_left
                    · (intro w hSw; (try dsimp only at hSw); go_simp; try with_reducible rfl)
                    try go_simp
                    refine wpAnyH_take (i := 13) (v := ?_) rfl (by kernel_rfl) (by kernel_rfl) (by kernel_rfl) (fun _ _ _ h => h) (Or.inl ⟨by rfl, ?_⟩) (by assumption) ?_
                    rotate_left
                    · (intro w hSw; (try dsimp only at hSw); go_simp; try with_reducible rfl)
                    try go_simp
                    refine wpAnyH_ready (rs := [14]) (by kernel_rfl) (by simp) ?_
                    refine AllReadyH.cons rfl (fun K hK => ?_) AllReadyH.nil
                    go_simp
                    go_wp2_with (go_at_call 19; (with_reducible refine (HLE.out _).mono ?_); rintro e wa ⟨rfl, hba⟩)
                    refine hK.out _ _ ?_ (fun hHeld2 => ?_)
                    · (first
                        | (with_reducible assumption)
                        | (with_reducible exact seven_below ‹_ ∧ _ ∧ _ ∧ _ ∧ _ ∧ _ ∧ _ ∧ Below _ _ _› hba))
                    clear hK K hHeld
                    have hHeld := hHeld2
                    clear hHeld2
                    refine wpAnyH_take (i := 15) (v := ?_) rfl (by kernel_rfl) (by kernel_rfl) (by kernel_rfl) (fun _ _ _ h => h) (Or.inl ⟨by rfl, ?_⟩) (by assumption) ?_
                    rotate_left
                    · (intro w hSw; (try dsimp only at hSw); go_simp; try with_reducible rfl)
                    try go_simp
                    refine wpAnyH_take (i := 16) (v := ?_) rfl (by kernel_rfl) (by kernel_rfl) (by kernel_rfl) (fun _ _ _ h => h) (Or.inl ⟨by rfl, ?_⟩) (by assumption) ?_
                    rotate_left
                    · (intro w hSw; (try dsimp only at hSw); go_simp; try with_reducible rfl)
                    try go_simp
                    refine wpAnyH_take (i := 17) (v := ?_) rfl (by kernel_rfl) (by kernel_rfl) (by kernel_rfl) (fun _ _ _ h => h) (Or.inl ⟨by rfl, ?_⟩) (by assumption) ?_
                    rotate_left
                    · (intro w hSw; (try dsimp only at hSw); go_simp; try with_reducible rfl)
                    try go_simp
                    refine wpAnyH_take (i := 18) (v := undef) rfl (by kernel_rfl) (by kernel_rfl) (by kernel_rfl) (fun _ _ _ h => h) (Or.inr ⟨by rfl, rfl⟩) (by assumption) ?_
                    try go_simp
                    refine wpAnyH_take (i := 19) (v := undef) rfl (by kernel_rfl) (by kernel_rfl) (by kernel_rfl) (fun _ _ _ h => h) (Or.inr ⟨by rfl, rfl⟩) (by assumption) ?_
                    try go_simp
                    refine wpAnyH_take (i := 20) (v := undef) rfl (by kernel_rfl) (by kernel_rfl) (by kernel_rfl) (fun _ _ _ h => h) (Or.inr ⟨by rfl, rfl⟩) (by assumption) ?_
                    try go_simp
                    refine wpAnyH_take (i := 21) (v := undef) rfl (by kernel_rfl) (by kernel_rfl) (by kernel_rfl) (fun _ _ _ h => h) (Or.inr ⟨by rfl, rfl⟩) (by assumption) ?_
                    try go_simp
                    refine wpAnyH_take (i := 22) (v := undef) rfl (by kernel_rfl) (by kernel_rfl) (by kernel_rfl) (fun _ _ _ h => h) (Or.inr ⟨by rfl, rfl⟩) (by assumption) ?_
                    try go_simp
                    refine wpAnyH_take (i := 23) (v := undef) rfl (by kernel_rfl) (by kernel_rfl) (by kernel_rfl) (fun _ _ _ h => h) (Or.inr ⟨by rfl, rfl⟩) (by assumption) ?_
                    try go_simp
                    refine wpAnyH_take (i := 24) (v := undef) rfl (by kernel_rfl) (by kernel_rfl) (by kernel_rfl) (fun _ _ _ h => h) (Or.inr ⟨by rfl, rfl⟩) (by assumption) ?_
                    try go_simp
                    refine wpAnyH_take (i := 25) (v := undef) rfl (by kernel_rfl) (by kernel_rfl) (by kernel_rfl) (fun _ _ _ h => h) (Or.inr ⟨by rfl, rfl⟩) (by assumption) ?_
                    try go_simp
                    refine wpAnyH_take (i := 26) (v := undef) rfl (by kernel_rfl) (by kernel_rfl) (by kernel_rfl) (fun _ _ _ h => h) (Or.inr ⟨by rfl, rfl⟩) (by assumption) ?_
                    try go_simp
                    refine wpAnyH_take (i := 27) (v := undef) rfl (by kernel_rfl) (by kernel_rfl) (by kernel_rfl) (fun _ _ _ h => h) (Or.inr ⟨by rfl, rfl⟩) (by assumption) ?_
                    try go_simp
                    refine wpAnyH_take (i := 28) (v := undef) rfl (by kernel_rfl) (by kernel_rfl) (by kernel_rfl) (fun _ _ _ h => h) (Or.inr ⟨by rfl, rfl⟩) (by assumption) ?_
                    try go_simp
                    refine wpAnyH_take (i := 29) (v := undef) rfl (by kernel_rfl) (by kernel_rfl) (by kernel_rfl) (fun _ _ _ h => h) (Or.inr ⟨by rfl, rfl⟩) (by assumption) ?_
                    try go_simp
                    refine wpAnyH_take (i := 30) (v := ?_) rfl (by kernel_rfl) (by kernel_rfl) (by kernel_rfl) (fun _ _ _ h => h) (Or.inl ⟨by rfl, ?_⟩) (by assumption) ?_
                    rotate_left
                    · (intro w hSw; (try dsimp only at hSw); go_simp; try with_reducible rfl)
                    try go_simp
                    refine wpAnyH_done (by kernel_rfl) ?_ _
                    have HBF := Lib.hid (And.right (And.right (And.right (And.right (And.right (And.right (And.right hHeld)))))))
                    clear hHeld
                    go_wp2_with fail
                    go_ret
                    exact ⟨by (rw [HXF.out]) <;> rfl, HBF.out⟩
                  · have HO : Hid (k' + 1 = 0 ∨ ltB (sAt ss (k' + 1 - 1)) (sAt ss (k' + 1)) = true) := .inr hlo
                    rw [hlo] at HLE
                    clear hlo
                    by_cases hgcd : Nat.gcd T.natAbs Z.natAbs = 1
                    · have HI : Hid (itemOk ss ts bs (k' + 1) = true) := item_yes (by rw [HSA.out]; exact HTO.out) (by rw [HTT.out, HZZ.out]; exact HSM.out) (by rw [HTT.out]; exact hT0) HO.out (by rw [HTT.out, HZZ.out]; exact hgcd)
                      have HOKN : Hid (∀ i, i < (k' + 1) + 1 → itemOk ss ts bs i = true) := fun i hi => by
                        by_cases e : i = (k' + 1)
                        · subst e; exact HI.out
                        · exact HOK.out i (by omega)
                      have hgi : (((Nat.gcd T.natAbs Z.natAbs : Nat) : Int) != 1) = false := by rw [hgcd]; rfl
                      clear hgcd
                      go_region_held3 (fun W' => (W'.cell? ⟨w.heap.size, 0, none⟩ = some (.slice (some ⟨g, o, none⟩) ss.length ca) ∧ W'.cell? ⟨w.heap.size, 1, none⟩ = some (.slice (some ⟨gB, oB, none⟩) ss.length cb) ∧ W'.cell? ⟨w.heap.size, 2, none⟩ = some (.slice (some ⟨gC, oC, none⟩) ss.length cc) ∧ W'.cell? ⟨g, o + (k' + 1), none⟩ = some (.string s) ∧ W'.cell? ⟨gB, oB + (k' + 1), none⟩ = some (.int .i64 T) ∧ W'.cell? ⟨gC, oC + (k' + 1), none⟩ = some (.int .i64 Z) ∧ W'.cell? ⟨g, o + k', none⟩ = some (.string sP) ∧ Below w.heap.size w W'))
                        (first
                          | (with_reducible assumption)
                          | (with_reducible exact seven_below ‹_ ∧ _ ∧ _ ∧ _ ∧ _ ∧ _ ∧ _ ∧ Below _ _ _› hba))
                        (first
                          | (go_at_call 19; (with_reducible refine (HLE.out _).mono ?_); rintro e wa ⟨rfl, hba⟩)
                          | (go_at_call 20; (with_reducible refine (HGC.out _).mono ?_); rintro e wa ⟨rfl, rfl⟩))
                      all_goals
                        have hS := ‹_ ∧ _ ∧ _ ∧ _ ∧ _ ∧ _ ∧ _ ∧ Below _ _ _›
                        have HBF := Lib.hid (And.right (And.right (And.right (And.right (And.right (And.right (And.right hS)))))))
                        have HBX := Lib.hid hS
                        clear hS
                        go_wp2_with fail
                        go_roundw
                        case rel => exact ⟨(k' + 1) + 1, by omega, by go_num, HOKN.out, HBF.out, ⟨HBX.out.1, HBX.out.2.1, HBX.out.2.2.1⟩⟩
                        case measure => simp [intOf]; omega
                    · have HXF : Hid (x = false) := HNOX.out (k' + 1) hlt (item_low (by rw [HTT.out, HZZ.out]; exact hgcd))
                      have hgi : (((Nat.gcd T.natAbs Z.natAbs : Nat) : Int) != 1) = true := by simp; omega
                      clear hgcd
                      go_region_held3 (fun W' => (W'.cell? ⟨w.heap.size, 0, none⟩ = some (.slice (some ⟨g, o, none⟩) ss.length ca) ∧ W'.cell? ⟨w.heap.size, 1, none⟩ = some (.slice (some ⟨gB, oB, none⟩) ss.length cb) ∧ W'.cell? ⟨w.heap.size, 2, none⟩ = some (.slice (some ⟨gC, oC, none⟩) ss.length cc) ∧ W'.cell? ⟨g, o + (k' + 1), none⟩ = some (.string s) ∧ W'.cell? ⟨gB, oB + (k' + 1), none⟩ = some (.int .i64 T) ∧ W'.cell? ⟨gC, oC + (k' + 1), none⟩ = some (.int .i64 Z) ∧ W'.cell? ⟨g, o + k', none⟩ = some (.string sP) ∧ Below w.heap.size w W'))
                        (first
                          | (with_reducible assumption)
                          | (with_reducible exact seven_below ‹_ ∧ _ ∧ _ ∧ _ ∧ _ ∧ _ ∧ _ ∧ Below _ _ _› hba))
                        (first
                          | (go_at_call 19; (with_reducible refine (HLE.out _).mono ?_); rintro e wa ⟨rfl, hba⟩)
                          | (go_at_call 20; (with_reducible refine (HGC.out _).mono ?_); rintro e wa ⟨rfl, rfl⟩))
                      all_goals
                        have hS := ‹_ ∧ _ ∧ _ ∧ _ ∧ _ ∧ _ ∧ _ ∧ Below _ _ _›
                        have HBF := Lib.hid (And.right (And.right (And.right (And.right (And.right (And.right (And.right hS)))))))
                        clear hS
                        go_wp2_with fail
                        go_ret
                        exact ⟨by (rw [HXF.out]) <;> rfl, HBF.out⟩
      · obtain rfl : k = ss.length := by omega
        have HXT := Lib.hid (HOKX.out HOK.out)
        go_wp2_with fail
        go_ret
        exact ⟨by (rw [HXT.out]) <;> rfl, hbel.out⟩
  · have hx := sumOk_len hlen
    rw [hx]
    clear hA hB hC hs hx
    by_cases h1 : ss.length ≤ 300
    · by_cases h2 : ts.length = ss.length
      · have h3 : bs.length ≠ ss.length := fun h => hlen ⟨h1, h2, h⟩
        rw [h2]
        have d1 : decide ((ss.length : Int) > 300) = false := by rw [decide_eq_false_iff_not]; omega
        have d2 : ((ss.length : Int) != (ss.length : Int)) = false := by simp
        have d3 : ((bs.length : Int) != (ss.length : Int)) = true := by simp; omega
        clear hlen
        go_enter Tryz.func7, Tryz.ntmps7
        go_wp2_with fail
        go_ret
        exact ⟨rfl, by go_grown⟩
      · have d1 : decide ((ss.length : Int) > 300) = false := by rw [decide_eq_false_iff_not]; omega
        have d2 : ((ts.length : Int) != (ss.length : Int)) = true := by simp; omega
        clear hlen
        go_enter Tryz.func7, Tryz.ntmps7
        go_wp2_with fail
        go_ret
        exact ⟨rfl, by go_grown⟩
    · have d1 : decide ((ss.length : Int) > 300) = true := by rw [decide_eq_true_eq]; omega
      clear hlen
      go_enter Tryz.func7, Tryz.ntmps7
      go_wp2_with fail
      go_ret
      exact ⟨rfl, by go_grown⟩

end Go.Proofs.YtdlbgppoochheaaGreatDoor
