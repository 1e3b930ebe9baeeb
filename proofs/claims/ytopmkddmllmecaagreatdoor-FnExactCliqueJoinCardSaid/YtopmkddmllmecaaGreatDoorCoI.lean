/- The model's l5Coherent at two app. -/
import Derived.Test.YtopmkddmllmecaaGreatDoorCoD
set_option linter.unusedSimpArgs false
set_option linter.unusedVariables false
namespace Go.Proofs.YtopmkddmllmecaaGreatDoor
open Go.RowKit Rt Go.Lib

set_option maxHeartbeats 6400000 in
set_option maxRecDepth 100000 in
theorem coh_apps (s t : Term) (l0 l1 : List Term) (va vb : Value) (w : World) (hl0 : l0.length ≤ 10000) (hl1 : l1.length ≤ 10000) (hr0 : RepS w (ofTerm (.app s l0)) va) (hr1 : RepS w (ofTerm (.app t l1)) vb) (hC : ∀ (va vb : Value) (w : World), RepS w (ofTerm (firstOf (.app s l0))) va → RepS w (ofTerm (firstOf (.app t l1))) vb → Calls Tryz.prog 61 #[va, vb] w fun e w' => e = .returned (.bool true) ∧ Below w.heap.size w w')
    (hI : ∀ u ∈ l0 ++ l1, ∀ v ∈ l0 ++ l1, ∀ (va vb : Value) (w : World), RepS w (ofTerm u) va → RepS w (ofTerm v) vb → Calls Tryz.prog 61 #[va, vb] w fun e w' => e = .returned (.bool (cohB u v)) ∧ Below w.heap.size w w') :
    Calls Tryz.prog 61 #[va, vb] w fun e w' => e = .returned (.bool (cliqueB (l0 ++ l1))) ∧ Below w.heap.size w w' := by
  have hs : atomT (.app s l0) = none := rfl
  have ht : atomT (.app t l1) = none := rfl
  have HI := Lib.hid hI
  obtain ⟨b0, n0, c0, x0, y0, rfl, i01, i02, i03, p02, p03, hf0⟩ := list_shape (.app s l0) va w hs hr0
  obtain ⟨b1, n1, c1, x1, y1, rfl, i11, i12, i13, p12, p13, hf1⟩ := list_shape (.app t l1) vb w ht hr1
  have HH0 : Hid (∀ W, Below w.heap.size w W → Calls Tryz.prog 90 #[.agg #[.string ⟨#[]⟩, .slice (some ⟨b0, 0, none⟩) n0 c0]] W fun e w' => e = .returned (.string ⟨#[97, 112, 112]⟩) ∧ Below W.heap.size W w') := fun W hW => l1Head_any _ _ W (hr0.keep (below_keeps hW))
  have HH1 : Hid (∀ W, Below w.heap.size w W → Calls Tryz.prog 90 #[.agg #[.string ⟨#[]⟩, .slice (some ⟨b1, 0, none⟩) n1 c1]] W fun e w' => e = .returned (.string ⟨#[97, 112, 112]⟩) ∧ Below W.heap.size W w') := fun W hW => l1Head_any _ _ W (hr1.keep (below_keeps hW))
  have HC : Hid (∀ W, Below w.heap.size w W → Calls Tryz.prog 61 #[.agg #[x0, y0], .agg #[x1, y1]] W fun e w' => e = .returned (.bool true) ∧ Below W.heap.size W w') := fun W hW => hC (.agg #[x0, y0]) (.agg #[x1, y1]) W (hf0.keep (below_keeps hW)) (hf1.keep (below_keeps hW))
  have HBG : Hid (∀ W, Below w.heap.size w W → Calls Tryz.prog 91 #[.agg #[.string ⟨#[]⟩, .slice (some ⟨b0, 0, none⟩) n0 c0], .agg #[.string ⟨#[]⟩, .slice (some ⟨b1, 0, none⟩) n1 c1]] W (RowsPost W (l0 ++ l1))) := fun W hW => l5Bags_any s t l0 l1 _ _ W hl0 hl1 (hr0.keep (below_keeps hW)) (hr1.keep (below_keeps hW))
  have hN : (l0 ++ l1).length ≤ 20000 := by rw [List.length_append]; omega
  have P := Lib.hid (And.intro p02 (And.intro p03 (And.intro p12 p13)))
  have HR := Lib.hid (And.intro hr0 hr1)
  unfold maxLen at i03 i13
  have i04 : 1 < n0 := by omega
  have i14 : 1 < n1 := by omega
  have i05 : (1 : Int) < (n0 : Int) := by omega
  have i15 : (1 : Int) < (n1 : Int) := by omega
  clear hs ht hr0 hr1 p02 p03 p12 p13 hf0 hf1 hC hI
  generalize l0 ++ l1 = all at *
  have HNT : Hid (∀ i k a b, all[i]? = some a → all[k]? = some b → cohB a b = false → cliqueB all = false) := fun i k a b h1 h2 h3 => clique_not all i k a b h1 h2 h3
  have HYES : Hid ((∀ (i k : Nat) (a b : Term), all[i]? = some a → all[k]? = some b → k ≤ i → cohB a b = true) → cliqueB all = true) := clique_pairs all
  generalize cliqueB all = R at *
  go_enter Tryz.func61, Tryz.ntmps61
  go_upto_region 3 with fail
  have hW := below_two w (.cells #[.string ⟨#[]⟩, .slice (some ⟨b0, 0, none⟩) n0 c0] 84) (.cells #[.string ⟨#[]⟩, .slice (some ⟨b1, 0, none⟩) n1 c1] 84)
  have hx0 := Blk.alloc (Blk.new w 84 #[.string ⟨#[]⟩, .slice (some ⟨b0, 0, none⟩) n0 c0]) (.cells #[.string ⟨#[]⟩, .slice (some ⟨b1, 0, none⟩) n1 c1] 84)
  have hx1 := Blk.new (w.alloc (.cells #[.string ⟨#[]⟩, .slice (some ⟨b0, 0, none⟩) n0 c0] 84)) 84 #[.string ⟨#[]⟩, .slice (some ⟨b1, 0, none⟩) n1 c1]
  rw [show (w.alloc (.cells #[.string ⟨#[]⟩, .slice (some ⟨b0, 0, none⟩) n0 c0] 84)).heap.size = w.heap.size + 1 by simp] at hx1
  generalize (w.alloc (.cells #[.string ⟨#[]⟩, .slice (some ⟨b0, 0, none⟩) n0 c0] 84)).alloc (.cells #[.string ⟨#[]⟩, .slice (some ⟨b1, 0, none⟩) n1 c1] 84) = W at *
  obtain ⟨k0, k1, -, -⟩ := blk_cells hx0
  obtain ⟨k2, k3, -, -⟩ := blk_cells hx1
  have hkW := below_keeps hW
  have hS3 := eight_drew (w0 := w) (W := W) ⟨k0, k1, k2, k3, hkW _ _ P.out.1, hkW _ _ P.out.2.1, hkW _ _ P.out.2.2.1, hkW _ _ P.out.2.2.2, hW⟩
  clear hx0 hx1 hW hkW k0 k1 k2 k3
  go_region_held3 (fun W' => (W'.cell? ⟨w.heap.size, 0, none⟩ = some (.string ⟨#[]⟩) ∧ W'.cell? ⟨w.heap.size, 1, none⟩ = some (.slice (some ⟨b0, 0, none⟩) n0 c0) ∧ W'.cell? ⟨w.heap.size + 1, 0, none⟩ = some (.string ⟨#[]⟩) ∧ W'.cell? ⟨w.heap.size + 1, 1, none⟩ = some (.slice (some ⟨b1, 0, none⟩) n1 c1) ∧ W'.cell? ⟨b0, 2, none⟩ = some x0 ∧ W'.cell? ⟨b0, 3, none⟩ = some y0 ∧ W'.cell? ⟨b1, 2, none⟩ = some x1 ∧ W'.cell? ⟨b1, 3, none⟩ = some y1 ∧ Below w.heap.size w W'))
    (first
      | (with_reducible assumption)
      | (with_reducible exact eight_below ‹_ ∧ _ ∧ _ ∧ _ ∧ _ ∧ _ ∧ _ ∧ _ ∧ Below _ _ _› hba))
    (first
      | (go_at_call 90; (with_reducible refine (HH0.out _ (bel9 ‹_ ∧ _ ∧ _ ∧ _ ∧ _ ∧ _ ∧ _ ∧ _ ∧ Below _ _ _›)).mono ?_); rintro e wa ⟨rfl, hba⟩)
      | (go_at_call 90; (with_reducible refine (HH1.out _ (bel9 ‹_ ∧ _ ∧ _ ∧ _ ∧ _ ∧ _ ∧ _ ∧ _ ∧ Below _ _ _›)).mono ?_); rintro e wa ⟨rfl, hba⟩)
      | (go_at_call 61; (with_reducible refine (HC.out _ (bel9 ‹_ ∧ _ ∧ _ ∧ _ ∧ _ ∧ _ ∧ _ ∧ _ ∧ Below _ _ _›)).mono ?_); rintro e wa ⟨rfl, hba⟩))
  all_goals
    have hS4 := ‹_ ∧ _ ∧ _ ∧ _ ∧ _ ∧ _ ∧ _ ∧ _ ∧ Below _ _ _›
    obtain ⟨k0, k1, k2, k3, k4, k5, k6, k7, hB4⟩ := hS4
    have HH0' := Lib.hid (HH0.out _ hB4)
    have HB4 := Lib.hid hB4
    clear hS3 hB4 k4 k5 k6 k7
    go_wp2_with fail
    refine HH0'.out.mono ?_
    rintro e w5 ⟨rfl, hb5⟩
    have HB5 : Hid (Below w.heap.size w w5) := HB4.out.trans (hb5.mono HB4.out.size)
    have m0 := below_keeps hb5 _ _ k0
    have m1 := below_keeps hb5 _ _ k1
    have m2 := below_keeps hb5 _ _ k2
    have m3 := below_keeps hb5 _ _ k3
    have HBG' := Lib.hid (HBG.out _ HB5.out)
    clear hb5 k0 k1 k2 k3
    go_wp2_with fail
    refine HBG'.out.mono ?_
    rintro e w6 ⟨hb6, v6, xs, rfl, ⟨A6, c6, rfl, hrow⟩, hrf⟩
    have HB6 : Hid (Below w.heap.size w w6) := HB5.out.trans (hb6.mono HB5.out.size)
    have HROW := Lib.hid hrow
    have HRF := Lib.hid hrf
    clear hb6 hrow hrf m0 m1 m2 m3
    go_wp2_with fail
    go_loopw [6] (fun iv wr => ∃ i : Nat, i ≤ all.length ∧ iv = .int .i64 i ∧ Hid (Below w6.heap.size w6 wr) ∧ Hid (∀ (i' k : Nat) (a b : Term), i' < i → all[i']? = some a → all[k]? = some b → k ≤ i' → cohB a b = true)) (fun iv _ => all.length - (intOf iv).toNat)
    case atStart => exact ⟨0, Nat.zero_le _, rfl, Below.refl _ _, fun i' k a b h => absurd h (Nat.not_lt_zero _)⟩
    case round =>
      obtain ⟨i, hi, rfl, hB, hP⟩ := hrel
      by_cases hlt : i < all.length
      · go_wp2_with fail
        go_loopw [7] (fun kv wq => ∃ k : Nat, k ≤ i + 1 ∧ kv = .int .i64 k ∧ Hid (Below w6.heap.size w6 wq) ∧ Hid (∀ (k' : Nat) (a b : Term), k' < k → all[i]? = some a → all[k']? = some b → cohB a b = true)) (fun kv _ => i + 1 - (intOf kv).toNat)
        case atStart => exact ⟨0, Nat.zero_le _, rfl, hB.out, fun k' a b h => absurd h (Nat.not_lt_zero _)⟩
        case round =>
          obtain ⟨k, hk, rfl, hB2, hP2⟩ := hrel
          by_cases hle : k ≤ i
          · obtain ⟨u, hu⟩ : ∃ u, all[i]? = some u := ⟨all[i], List.getElem?_eq_getElem hlt⟩
            obtain ⟨v, hv⟩ : ∃ v, all[k]? = some v := ⟨all[k], List.getElem?_eq_getElem (by omega)⟩
            obtain ⟨ua, ub, e1, e2, hru⟩ := RepF.at _ xs i (ofTerm u) HRF.out (ofTerms_at all i u hu)
            obtain ⟨wa, wb, e3, e4, hrv⟩ := RepF.at _ xs k (ofTerm v) HRF.out (ofTerms_at all k v hv)
            obtain ⟨g, rfl, hcs⟩ := HROW.out (by omega)
            have hKr := below_keeps hB2.out
            have d1 := hKr _ _ (hcs (i * 2) ua e1)
            have d2 := hKr _ _ (hcs (i * 2 + 1) ub e2)
            have d3 := hKr _ _ (hcs (k * 2) wa e3)
            have d4 := hKr _ _ (hcs (k * 2 + 1) wb e4)
            have HCC : Hid (∀ W, Below w6.heap.size w6 W → Calls Tryz.prog 61 #[.agg #[ua, ub], .agg #[wa, wb]] W fun e w' => e = .returned (.bool (cohB u v)) ∧ Below W.heap.size W w') := fun W hW => HI.out u (List.mem_of_getElem? hu) v (List.mem_of_getElem? hv) _ _ W (hru.keep (below_keeps hW)) (hrv.keep (below_keeps hW))
            have HU := Lib.hid hu
            have HV := Lib.hid hv
            clear hu hv e1 e2 e3 e4 hru hrv hcs hKr
            cases hco : cohB u v with
            | false =>
              rw [hco] at HCC
              have HRR : Hid (R = false) := HNT.out i k u v HU.out HV.out hco
              clear hco
              go_wp2_with fail
              go_region_with (go_at_call 61; (with_reducible refine (HCC.out _ (by first | exact hB2.out | exact hB2.out.drew)).mono ?_); rintro e w8 ⟨rfl, hb8⟩; have HB8 : Hid (Below w.heap.size w w8) := HB6.out.trans ((Below.trans (by first | exact hB2.out | exact hB2.out.drew) (hb8.mono hB2.out.size)).mono HB6.out.size); clear hb8)
              all_goals (try go_wp2_with fail)
              all_goals
                go_ret
                exact ⟨ret_bool HRR.out.symm, HB8.out⟩
            | true =>
              rw [hco] at HCC
              have HCO := Lib.hid hco
              clear hco
              go_wp2_with fail
              go_region_with (go_at_call 61; (with_reducible refine (HCC.out _ (by first | exact hB2.out | exact hB2.out.drew)).mono ?_); rintro e w8 ⟨rfl, hb8⟩; have HB8 : Hid (Below w6.heap.size w6 w8) := Below.trans (by first | exact hB2.out | exact hB2.out.drew) (hb8.mono hB2.out.size); clear hb8)
              all_goals (try go_wp2_with fail)
              all_goals
                go_roundw
                case rel =>
                  refine ⟨k + 1, by omega, by go_num, HB8.out, fun k' a b h h1 h2 => ?_⟩
                  rcases Nat.lt_or_ge k' k with h3 | h3
                  · exact hP2.out k' a b h3 h1 h2
                  · obtain rfl : k' = k := by omega
                    rw [HU.out] at h1; rw [HV.out] at h2
                    obtain rfl := Option.some.inj h1
                    obtain rfl := Option.some.inj h2
                    exact HCO.out
                case measure => simp [intOf]; omega
          · have hq : ¬ (k : Int) ≤ (i : Int) := by omega
            go_wp2_with fail
            go_roundw
            case rel =>
              refine ⟨i + 1, by omega, by go_num, hB2.out, fun i' k' a b h h1 h2 h3 => ?_⟩
              rcases Nat.lt_or_ge i' i with h4 | h4
              · exact hP.out i' k' a b h4 h1 h2 h3
              · obtain rfl : i' = i := by omega
                exact hP2.out k' a b (by omega) h1 h2
            case measure => simp [intOf]; omega
      · obtain rfl : i = all.length := by omega
        have HRR : Hid (R = true) := HYES.out fun i' k a b h1 h2 h3 => hP.out i' k a b (List.getElem?_eq_some_iff.1 h1).1 h1 h2 h3
        go_wp2_with fail
        go_ret
        exact ⟨ret_bool HRR.out.symm, HB6.out.trans (hB.out.mono HB6.out.size)⟩

end Go.Proofs.YtopmkddmllmecaaGreatDoor
