/- The model's SumPart. -/
import Derived.Test.YtdlbgppoochheaaGreatDoorPtI
import Derived.Test.YtdlbgppoochheaaGreatDoorSpV
namespace Go.Proofs.YtdlbgppoochheaaGreatDoor
open Go.RowKit Rt Go.Lib

/-- What l2Find gives. -/
def FindRes (ss : List ByteArray) (l : B) (a : Nat) : Prop := a ≤ ss.length ∧ (∀ j, j < a → ltB (sAt ss j) l = true) ∧ (∀ j, a ≤ j → j < ss.length → ltB (sAt ss j) l = false)

/-- What l2Find gives, and the memory. -/
def FindPost2 (ss : List ByteArray) (l : B) (w : World) (e : Ending) (w' : World) : Prop := ∃ a : Nat, e = .returned (.int .i64 a) ∧ FindRes ss l a ∧ Below w.heap.size w w'

set_option maxHeartbeats 1600000 in
set_option maxRecDepth 100000 in
theorem l2Find_any (A : Option Addr) (ca : Nat) (ss : List ByteArray) (s : ByteArray) (w : World) (hl : ss.length ≤ 300) (hs : ∀ s ∈ ss, s.size ≤ maxLen) (hm : s.size ≤ maxLen) (hlt : ∀ i j, i < j → j < ss.length → ltB (sAt ss i) (sAt ss j) = true) (hA : Texts w A ss) :
    Calls Tryz.prog 27 #[.slice A ss.length ca, .string s] w (FindPost2 ss s.data.toList w) := by
  have HA := Lib.hid hA
  have HS := Lib.hid hs
  have HLT := Lib.hid hlt
  clear hA hs hlt
  go_enter Tryz.func27, Tryz.ntmps27
  go_wp2_with fail
  go_loopw [5, 6] (fun lv hv wr => ∃ a b : Nat, a ≤ b ∧ b ≤ ss.length ∧ lv = .int .i64 a ∧ hv = .int .i64 b ∧ Hid (∀ j, j < a → ltB (sAt ss j) s.data.toList = true) ∧ Hid (∀ j, b ≤ j → j < ss.length → ltB (sAt ss j) s.data.toList = false) ∧ Hid (Below w.heap.size w wr)) (fun lv hv _ => (intOf hv).toNat - (intOf lv).toNat)
  case atStart => exact ⟨0, ss.length, Nat.zero_le _, Nat.le_refl _, rfl, rfl, fun j hj => by omega, fun j hj hj2 => by omega, Below.refl _ _⟩
  case round =>
    obtain ⟨a, b, hab, hb, rfl, rfl, h1, h2, hbel⟩ := hrel
    by_cases hlt2 : a < b
    · obtain ⟨q, hq⟩ : ∃ q, q = (a + b) / 2 := ⟨_, rfl⟩
      have hqa : a ≤ q := by omega
      have hqb : q < b := by omega
      have hqs : q < ss.length := by omega
      obtain ⟨m, hm2⟩ : ∃ m, ss[q]? = some m := ⟨_, List.getElem?_eq_getElem hqs⟩
      obtain ⟨g, o, rfl, e0⟩ := HA.out q m hm2
      have e1 : wr.cell? ⟨g, o + q, none⟩ = some (.string m) := (hbel.out.cell (p := ⟨g, o + q, none⟩) (World.block_lt_of_cell? w _ e0)).trans e0
      have HSA : Hid (sAt ss q = m.data.toList) := by show _ = _; unfold sAt; rw [List.getD, hm2]; rfl
      have hsz := HS.out m (List.mem_of_getElem? hm2)
      have HL : Hid (∀ W, Calls Tryz.prog 19 #[.string m, .string s] W fun e w' => e = .returned (.bool (ltB (sAt ss q) s.data.toList)) ∧ Below W.heap.size W w') := fun W => by
        rw [HSA.out]
        exact (l1Less_any m s W hsz hm).mono fun e w' ⟨h1, h2⟩ => ⟨h1, h2.below _⟩
      have q1 : ((a : Int) + (b : Int)).tdiv 2 = (q : Int) := by rw [Int.tdiv_eq_ediv_of_nonneg (by omega)]; omega
      have q2 : (q : Int) < (ss.length : Int) := by omega
      have q3 : IntKind.i64.wrap ((a : Int) + (b : Int)) = (a : Int) + (b : Int) := IntWalk.i64_in _ (by omega)
      have q4 : IntKind.i64.wrap (q : Int) = (q : Int) := IntWalk.i64_in _ (by omega)
      clear e0 hm2 hq
      cases hc : ltB (sAt ss q) s.data.toList
      · rw [hc] at HL
        have HC := Lib.hid hc
        clear hc
        go_wp2_with (go_at_call 19; refine (HL.out _).mono ?_; rintro e w2 ⟨rfl, hb2⟩; have HB2 := Lib.hid (hbel.out.trans (hb2.mono hbel.out.size)); clear hb2)
        go_roundw
        case rel =>
          refine ⟨a, q, by omega, by omega, rfl, rfl, h1.out, fun j hj hj2 => ?_, HB2.out⟩
          by_cases e : j = q
          · subst e; exact HC.out
          · cases hx : ltB (sAt ss j) s.data.toList
            · rfl
            · have := ltB_trans _ _ _ (HLT.out q j (by omega) hj2) hx
              rw [HC.out] at this
              cases this
        case measure => simp [intOf]; omega
      · rw [hc] at HL
        have HC := Lib.hid hc
        clear hc
        go_wp2_with (go_at_call 19; refine (HL.out _).mono ?_; rintro e w2 ⟨rfl, hb2⟩; have HB2 := Lib.hid (hbel.out.trans (hb2.mono hbel.out.size)); clear hb2)
        go_roundw
        case rel =>
          refine ⟨q + 1, b, by omega, by omega, by go_num, rfl, fun j hj => ?_, h2.out, HB2.out⟩
          by_cases e : j = q
          · subst e; exact HC.out
          · by_cases ha : j < a
            · exact h1.out j ha
            · exact ltB_trans _ _ _ (HLT.out j q (by omega) hqs) HC.out
        case measure => simp [intOf]; omega
    · obtain rfl : a = b := by omega
      go_wp2_with fail
      go_ret
      exact ⟨a, rfl, ⟨hb, h1.out, h2.out⟩, hbel.out⟩

set_option maxHeartbeats 3200000 in
set_option maxRecDepth 100000 in
theorem specSumPart (A B C : Option Addr) (ca cb cc : Nat) (ss : List ByteArray) (ts bs : List Int) (s : ByteArray) (w : World) (hs : ∀ s ∈ ss, s.size ≤ maxLen) (hl1 : ss.length ≤ maxLen) (hl2 : ts.length ≤ maxLen) (hl3 : bs.length ≤ maxLen) (hm : s.size ≤ maxLen)
    (hA : Texts w A ss) (hB : Ints w B ts) (hC : Ints w C bs) :
    Calls Tryz.prog 11 #[.agg #[.slice A ss.length ca, .slice B ts.length cb, .slice C bs.length cc], .string s] w (TripPost w (partRes ss ts bs s.data.toList)) := by
  have hb0 : Below w.heap.size w (w.alloc (.cells #[.slice A ss.length ca, .slice B ts.length cb, .slice C bs.length cc] 28)) := below_alloc (Below.refl _ w) _
  have HB0 := Lib.hid hb0
  have HBX := Lib.hid (Blk.new w 28 #[.slice A ss.length ca, .slice B ts.length cb, .slice C bs.length cc])
  have HV := Lib.hid (specSumValid A B C ca cb cc ss ts bs _ hs hl1 hl2 hl3 (hA.below hb0) (hB.below hb0) (hC.below hb0))
  have HTV : Hid (∀ W, Calls Tryz.prog 17 #[.string s] W fun e w' => e = .returned (.bool (termOf s.data.toList).isSome) ∧ Below W.heap.size W w') := fun W => specTermValid l1Bag_any s hm W
  have HFI : Hid (∀ W, Below w.heap.size w W → sumOk ss ts bs = true → Calls Tryz.prog 27 #[.slice A ss.length ca, .string s] W (FindPost2 ss s.data.toList W)) := fun W hb hx => l2Find_any A ca ss s W (sumOk_items hx).1 hs hm (fun i j hij hj => items_lt (ts := ts) (bs := bs) j (fun a ha => (sumOk_items hx).2.2.2 a (by omega)) i hij) (hA.below hb)
  have HA := Lib.hid hA
  have HB := Lib.hid hB
  have HC := Lib.hid hC
  have HF0 : Hid (sumOk ss ts bs = false → partRes ss ts bs s.data.toList = (0, 0, false)) := fun h => by unfold partRes; rw [h]
  have HF1 : Hid (termOf s.data.toList = none → partRes ss ts bs s.data.toList = (0, 0, false)) := fun h => by unfold partRes; rw [h]; cases sumOk ss ts bs <;> rfl
  have HF2 : Hid (∀ t, sumOk ss ts bs = true → termOf s.data.toList = some t → (∀ j, j < ss.length → sAt ss j ≠ s.data.toList) → partRes ss ts bs s.data.toList = (0, 1, true)) := fun t h1 h2 h3 => by unfold partRes; rw [h1, h2, findAt_none h3]
  have HF3 : Hid (∀ t j, sumOk ss ts bs = true → termOf s.data.toList = some t → j < ss.length → sAt ss j = s.data.toList → partRes ss ts bs s.data.toList = (ts.getD j 0, bs.getD j 0, true)) := fun t j h1 h2 h3 h4 => by unfold partRes; rw [h1, h2, findAt_some (sumOk_items h1).2.2.2 h3 h4]
  generalize partRes ss ts bs s.data.toList = r at HF0 HF1 HF2 HF3 ⊢
  unfold maxLen at hl1
  clear hs hA hB hC hb0
  cases hx : sumOk ss ts bs
  · rw [hx] at HV
    have HX : Hid (r = (0, 0, false)) := HF0.out hx
    clear hx
    go_enter Tryz.func11, Tryz.ntmps11
    go_wp2_with fail
    refine HV.out.mono ?_
    rintro e w1 ⟨rfl, hb1⟩
    have HB1 := Lib.hid (HB0.out.trans (hb1.mono HB0.out.size))
    clear hb1
    go_wp2_with fail
    refine bodyPost_ret (v := .tuple #[.int .i64 0, .int .i64 0, .bool false]) ?_ rfl ?_
    · simp [results, Tryz.results11, go_sem]
    · exact ⟨by rw [HX.out], HB1.out⟩
  · rw [hx] at HV
    have HOK := Lib.hid hx
    have HIT := Lib.hid (sumOk_items hx)
    clear hx
    have h2l := HIT.out.2.1
    have h3l := HIT.out.2.2.1
    have HL2 := Lib.hid h2l
    have HL3 := Lib.hid h3l
    cases ht : termOf s.data.toList with
    | none =>
      have HX : Hid (r = (0, 0, false)) := HF1.out ht
      rw [ht] at HTV
      clear ht h2l h3l
      have hn1 : (none : Option Term).isSome = false := rfl
      go_enter Tryz.func11, Tryz.ntmps11
      go_wp2_with fail
      refine HV.out.mono ?_
      rintro e w1 ⟨rfl, hb1⟩
      have HB1 := Lib.hid (HB0.out.trans (hb1.mono HB0.out.size))
      clear hb1
      go_wp2_with fail
      refine (HTV.out _).mono ?_
      rintro e w2 ⟨rfl, hb2⟩
      have HB2 := Lib.hid (HB1.out.trans (hb2.mono HB1.out.size))
      clear hb2
      go_wp2_with fail
      refine bodyPost_ret (v := .tuple #[.int .i64 0, .int .i64 0, .bool false]) ?_ rfl ?_
      · simp [results, Tryz.results11, go_sem]
      · exact ⟨by rw [HX.out], HB2.out⟩
    | some t =>
      have HTO := Lib.hid ht
      rw [ht] at HTV
      clear ht h2l h3l
      have hn1 : (some t).isSome = true := rfl
      go_enter Tryz.func11, Tryz.ntmps11
      go_wp2_with fail
      refine HV.out.mono ?_
      rintro e w1 ⟨rfl, hb1⟩
      have HB1 := Lib.hid (HB0.out.trans (hb1.mono HB0.out.size))
      have HK1 := Lib.hid (HBX.out.below hb1 HBX.out.lt)
      clear hb1
      go_wp2_with fail
      refine (HTV.out _).mono ?_
      rintro e w2 ⟨rfl, hb2⟩
      have HB2 := Lib.hid (HB1.out.trans (hb2.mono HB1.out.size))
      have HK2 := Lib.hid (HK1.out.below hb2 HK1.out.lt)
      obtain ⟨a0, a1, a2⟩ := blk_three HK2.out
      clear hb2
      go_wp2_with fail
      refine (HFI.out _ HB2.out HOK.out).mono ?_
      rintro e w3 ⟨k, rfl, hk, hb3⟩
      have HB3 := Lib.hid (HB2.out.trans (hb3.mono HB2.out.size))
      have HK3 := Lib.hid (HK2.out.below hb3 HK2.out.lt)
      have HFK := Lib.hid hk
      have hkl := hk.1
      clear hb3 hk a0 a1 a2
      obtain ⟨a0, a1, a2⟩ := blk_three HK3.out
      by_cases hlt : k < ss.length
      · obtain ⟨m, hm2⟩ : ∃ m, ss[k]? = some m := ⟨_, List.getElem?_eq_getElem hlt⟩
        have HSA : Hid (sAt ss k = m.data.toList) := by show _ = _; unfold sAt; rw [List.getD, hm2]; rfl
        obtain ⟨T, hTk⟩ : ∃ T, ts[k]? = some T := ⟨_, List.getElem?_eq_getElem (by rw [HL2.out]; exact hlt)⟩
        obtain ⟨Z, hZk⟩ : ∃ Z, bs[k]? = some Z := ⟨_, List.getElem?_eq_getElem (by rw [HL3.out]; exact hlt)⟩
        have HTT : Hid (ts.getD k 0 = T) := by show _ = _; rw [List.getD, hTk]; rfl
        have HZZ : Hid (bs.getD k 0 = Z) := by show _ = _; rw [List.getD, hZk]; rfl
        obtain ⟨g, o, hAe, e1⟩ := HA.out.below HB3.out k m hm2
        obtain ⟨gB, oB, hBe, e2⟩ := HB.out.below HB3.out k T hTk
        obtain ⟨gC, oC, hCe, e3⟩ := HC.out.below HB3.out k Z hZk
        subst hAe
        subst hBe
        subst hCe
        have hlT : (k : Int) < (ts.length : Int) := by rw [HL2.out]; omega
        have hlZ : (k : Int) < (bs.length : Int) := by rw [HL3.out]; omega
        clear hm2 hTk hZk
        by_cases hme : m = s
        · have d1 : (m.toList == s.toList) = true := by rw [hme]; simp
          have HX : Hid (r = (T, Z, true)) := by
            show _ = _
            rw [HF3.out t k HOK.out HTO.out hlt (by rw [HSA.out, hme]), HTT.out, HZZ.out]
          have e1d : w3.drew.cell? ⟨gB, oB + k, none⟩ = some (.int .i64 T) := e2
          have e2d : w3.drew.cell? ⟨gC, oC + k, none⟩ = some (.int .i64 Z) := e3
          clear hme
          go_wp2_with fail
          go_region
          all_goals
            go_wp2_with fail
            refine bodyPost_ret (v := .tuple #[.int .i64 T, .int .i64 Z, .bool true]) ?_ rfl ?_
            · simp [results, Tryz.results11, go_sem]
            · exact ⟨by rw [HX.out], HB3.out.trans (show Below w.heap.size w3 w3.drew from ⟨rfl, rfl, rfl, Nat.le_refl _, fun _ _ => rfl⟩)⟩
        · have d1 : (m.toList == s.toList) = false := by
            simp only [beq_eq_false_iff_ne, ne_eq]
            intro e
            apply hme
            rw [ByteArray.toList_eq, ByteArray.toList_eq] at e
            exact ByteArray.ext (Array.ext' e)
          have HX : Hid (r = (0, 1, true)) := by
            refine HF2.out t HOK.out HTO.out (fun j hj e => ?_)
            obtain ⟨f0, f1, f2⟩ := HFK.out
            by_cases h1 : j < k
            · have := f1 j h1
              rw [e, ltB_irrefl] at this
              cases this
            · by_cases h2 : j = k
              · subst h2
                rw [HSA.out] at e
                exact hme (ByteArray.ext (Array.ext' e))
              · have h3 := items_lt (ts := ts) (bs := bs) j (fun a ha => HIT.out.2.2.2 a (by omega)) k (by omega)
                rw [e] at h3
                have h4 := f2 k (Nat.le_refl _) hlt
                rw [h4] at h3
                cases h3
          clear hme
          go_wp2_with fail
          refine bodyPost_ret (v := .tuple #[.int .i64 0, .int .i64 1, .bool true]) ?_ rfl ?_
          · simp [results, Tryz.results11, go_sem]
          · exact ⟨by rw [HX.out], HB3.out⟩
      · have HX : Hid (r = (0, 1, true)) := by
          refine HF2.out t HOK.out HTO.out (fun j hj e => ?_)
          obtain ⟨f0, f1, f2⟩ := HFK.out
          have := f1 j (by omega)
          rw [e, ltB_irrefl] at this
          cases this
        have d1 : decide ((k : Int) < (ss.length : Int)) = false := by rw [decide_eq_false_iff_not]; omega
        go_wp2_with fail
        refine bodyPost_ret (v := .tuple #[.int .i64 0, .int .i64 1, .bool true]) ?_ rfl ?_
        · simp [results, Tryz.results11, go_sem]
        · exact ⟨by rw [HX.out], HB3.out⟩

end Go.Proofs.YtdlbgppoochheaaGreatDoor
