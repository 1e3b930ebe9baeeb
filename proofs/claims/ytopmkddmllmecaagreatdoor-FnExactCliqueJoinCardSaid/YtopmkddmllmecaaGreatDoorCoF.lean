/- The program's joint of app: coherent. -/
import Derived.Test.YtopmkddmllmecaaGreatDoorCoE
import Derived.Deep.RegionWith
import Derived.Deep.DeepCutAuto
import Derived.Handy
set_option linter.unusedSimpArgs false
set_option linter.unusedVariables false
namespace Go.Proofs.YtopmkddmllmecaaGreatDoor
open Go.RowKit Rt Go.Lib

theorem jadds_app : ∀ (l m : List Term) (j : Jt), jadds (l ++ m) j = match jadds l j with | none => none | some j' => jadds m j'
  | [], m, j => rfl
  | t :: l, m, j => by
    rw [List.cons_append, jadds, jadds]
    cases jadd t j with
    | none => rfl
    | some j1 => exact jadds_app l m j1
theorem jadds_next (l : List Term) (k : Nat) (u : Term) (j jb : Jt) (h : l[k]? = some u) (hj : jadds (l.take k) j = some jb) : jadds (l.take (k + 1)) j = jadd u jb := by
  rw [List.take_add_one, h, jadds_app, hj]
  show jadds [u] jb = _
  rw [jadds]; cases jadd u jb <;> rfl
theorem jadds_stop (l : List Term) (k : Nat) (j : Jt) (hj : jadds (l.take k) j = none) : jadds l j = none := by
  conv => lhs; rw [← List.take_append_drop k l]
  rw [jadds_app, hj]

set_option maxHeartbeats 6400000 in
set_option maxRecDepth 100000 in
theorem coh_app_yes (t : Term) (l : List Term) (j k : Jt) (hl : l.length ≤ 1000000) (ih : CohSaid t j) (ihs : ∀ u ∈ l, ∀ k', CohSaid u k') : CohSaid (.app t l) (.app j k) := by
  intro F m v w hj ho hr
  rw [RepPF] at hr
  obtain ⟨b, p, q, xs, rfl, h6, hp, ⟨A, c, rfl, hlc, hcm, hrow⟩, hps, -⟩ := hr
  obtain ⟨c0, -, -, -, c5, c6, -, -⟩ := h6
  have hlt : b < w.heap.size := World.block_lt_of_cell? w _ c0
  have HP := Lib.hid hp
  have HROW := Lib.hid hrow
  have HPS := Lib.hid hps
  rw [ok, Bool.and_eq_true] at ho
  have HO := Lib.hid ho.1
  have HOS : Hid (∀ u ∈ l, ok m u = true) := (oks_mem m l).1 ho.2
  have HJ := Lib.hid hj.1
  have HK := Lib.hid hj.2
  have ih2 : ∀ (F : Nat → Prop) (m : Nat) (v : Value) (w : World), jshort j → ok m t = true → RepPF F w t v → Calls Tryz.prog (cohF j) #[jag j, v] w (CohPost w (jadd t j)) := ih
  have hm := meth_coh j
  have IHS := Lib.hid ihs
  have HR1 : Hid (jadd t j = none → jadd (.app t l) (.app j k) = none) := fun h => by rw [jadd, h]
  have HR2 : Hid (∀ j2, jadd t j = some j2 → jadds l k = none → jadd (.app t l) (.app j k) = none) := fun j2 h h2 => by rw [jadd, h]; simp only; rw [h2]; rfl
  have HR3 : Hid (∀ j2 k2, jadd t j = some j2 → jadds l k = some k2 → jadd (.app t l) (.app j k) = some (.app j2 k2)) := fun j2 k2 h h2 => by rw [jadd, h]; simp only; rw [h2]; rfl
  generalize jadd (.app t l) (.app j k) = R at *
  clear hp ih hj ho hrow hps ihs
  unfold maxLen at hcm
  show Calls Tryz.prog 231 #[.agg #[jval j, jval k], _] w _
  rw [jval_eq j, jval_eq k]
  have HPA : Hid (∀ W, Below w.heap.size w W → RepPF F W t p) := fun W hW => RepPF.move (fun k _ hk => hW.block k hk) (fun k hk _ => hk) _ _ HP.out
  have HC6 : Hid (∀ W, Below w.heap.size w W → W.cell? ⟨b, 6, none⟩ = some (.slice A l.length c)) := fun W hW => below_keeps hW _ _ c6
  have d0 := cell_alloc c5
  go_enter Tryz.func231, Tryz.ntmps231
  go_upto_region 3 with fail
  have hbox := Blk.new w 262 #[.iface (jty j) (jag j), .iface (jty k) (jag k)]
  have HBOX : Hid (∀ W, Below (w.heap.size + 1) (w.alloc (.cells #[.iface (jty j) (jag j), .iface (jty k) (jag k)] 262)) W → W.cell? ⟨w.heap.size, 1, none⟩ = some (.iface (jty k) (jag k))) := fun W hW => (blk_cells (hbox.below hW (Nat.lt_succ_self _))).2.1
  clear hbox
  go_cut [6, 7] (fun a o wx => ∃ j2 o2, a = .iface (jty j2) (jag j2) ∧ o = .bool o2 ∧ Hid (CohR (jadd t j) j2 o2) ∧ Hid (Below w.heap.size w wx) ∧ wx.cell? ⟨w.heap.size, 1, none⟩ = some (.iface (jty k) (jag k)))
  case first =>
    have hc := call_coh j
    have IH := Lib.hid ih2
    clear ih2
    go_region_with ((with_reducible refine (IH.out F m p _ HJ.out HO.out (HPA.out _ (by go_grown))).mono ?_); rintro e w2 ⟨hb2, j2, o2, rfl, hr2⟩; have HB2 : Hid (Below w.heap.size w w2) := Below.trans (by go_grown) (hb2.mono (by simp)); have hx2 := HBOX.out w2 (Below.trans (by go_grown) (hb2.mono (by simp))); have HR2 := Lib.hid hr2; clear hb2 hr2)
    all_goals (try go_wp2_with fail)
    all_goals
      go_meet
      case rel => exact ⟨j2, o2, rfl, rfl, HR2.out, HB2.out, hx2⟩
  case rest =>
    obtain ⟨j2, o2, rfl, rfl, HF, HB, hx⟩ := hcut
    clear c0 c5 d0 ih2 hm
    go_wp2_with fail
    go_loopw [7, 8, 9] (fun o g i wr => ∃ (k' : Nat) (o' : Bool) (jb : Jt), k' ≤ l.length ∧ i = .int .i64 k' ∧ o = .bool o' ∧ g = .iface (jty jb) (jag jb) ∧ Hid (o' = true → o2 = true ∧ jadds (l.take k') k = some jb ∧ jshort jb) ∧ Hid (o' = false → R = none) ∧ Hid (Below w.heap.size w wr)) (fun _ _ i _ => l.length - (intOf i).toNat)
    case atStart =>
      refine ⟨0, o2, k, Nat.zero_le _, rfl, rfl, rfl, ?_, ?_, HB.out⟩
      · exact fun h => ⟨h, rfl, HK.out⟩
      · exact fun h => HR1.out (HF.out.2 h)
    case round =>
      obtain ⟨k', o', jb, hk, rfl, rfl, rfl, hT, hF, hB⟩ := hrel
      have c6 := HC6.out wr hB.out
      cases o' with
      | false =>
        have HN : Hid (R = none) := hF.out rfl
        clear hF hT
        go_wp2_with fail
        refine bodyPost_ret (v := .tuple #[.iface (jty (.app j2 jb)) (jag (.app j2 jb)), .bool false]) ?_ rfl ?_
        · simp [results, Tryz.results231, go_sem, jty, jag, jval_eq j2, jval_eq jb]
        · exact ⟨hB.out, _, _, rfl, by simp, fun _ => HN.out⟩
      | true =>
        by_cases hlt : k' < l.length
        · have HT := hT.out rfl
          have HT1 := Lib.hid HT.1
          have HT2 := Lib.hid HT.2.1
          have HT3 := Lib.hid HT.2.2
          clear HT hT hF
          obtain ⟨u, hu⟩ : ∃ u, l[k']? = some u := ⟨l[k'], List.getElem?_eq_getElem hlt⟩
          obtain ⟨x, hx2, hxr⟩ := RepPsF.at l xs k' u HPS.out hu
          obtain ⟨g, rfl, hcs, hFg⟩ := HROW.out (by omega)
          have e1 := below_keeps hB.out _ _ (hcs k' x hx2)
          have HXR : Hid (∀ W, Below w.heap.size w W → RepPF F W u x) := fun W hW => RepPF.move (fun k _ hk => hW.block k hk) (fun k hk _ => hk) _ _ hxr
          have hum : u ∈ l := List.mem_of_getElem? hu
          have HOU := Lib.hid (HOS.out u hum)
          have ihu : ∀ (F : Nat → Prop) (m : Nat) (v : Value) (w : World), jshort jb → ok m u = true → RepPF F w u v → Calls Tryz.prog (cohF jb) #[jag jb, v] w (CohPost w (jadd u jb)) := IHS.out u hum jb
          have hm := meth_coh jb
          have hn := nil_coh jb
          have HST : Hid (∀ j3, jadd u jb = some j3 → jadds (l.take (k' + 1)) k = some j3) := fun j3 h => by rw [jadds_next l k' u k jb hu HT2.out]; exact h
          have HSN : Hid (jadd u jb = none → R = none) := fun h => HR2.out j2 (HF.out.1 HT1.out) (jadds_stop l (k' + 1) k (by rw [jadds_next l k' u k jb hu HT2.out]; exact h))
          have HSJ : Hid (∀ j3, jadd u jb = some j3 → jshort j3) := fun j3 h => jadd_short u m jb j3 HOU.out HT3.out h
          have hix : ((k' : Int) + 1) = ((k' + 1 : Nat) : Int) := by omega
          have HIX := Lib.hid hix
          clear hx2 hxr hcs hum hu hix
          have hc := call_coh jb
          have IH := Lib.hid ihu
          clear ihu
          go_wp2_with fail
          go_region_with ((with_reducible refine (IH.out F m x _ HT3.out HOU.out (HXR.out _ (by first | exact hB.out | exact hB.out.drew))).mono ?_); rintro e w2 ⟨hb2, j3, o3, rfl, hr3⟩; have HB3 : Hid (Below w.heap.size w w2) := Below.trans (by first | exact hB.out | exact hB.out.drew) (hb2.mono hB.out.size); have HR3' := Lib.hid hr3; clear hb2 hr3)
          all_goals (try go_wp2_with fail)
          all_goals
            go_roundw
            case rel => exact ⟨k' + 1, o3, j3, by omega, by go_num, rfl, rfl, fun h => ⟨HT1.out, HST.out j3 (HR3'.out.1 h), HSJ.out j3 (HR3'.out.1 h)⟩, fun h => HSN.out (HR3'.out.2 h), HB3.out⟩
            case measure => simp [intOf]; omega
        · obtain rfl : k' = l.length := by omega
          have HT := hT.out rfl
          have HRS : Hid (R = some (.app j2 jb)) := HR3.out j2 jb (HF.out.1 HT.1) (by have := HT.2.1; rwa [List.take_length] at this)
          clear HT
          go_wp2_with fail
          refine bodyPost_ret (v := .tuple #[.iface (jty (.app j2 jb)) (jag (.app j2 jb)), .bool true]) ?_ rfl ?_
          · simp [results, Tryz.results231, go_sem, jty, jag, jval_eq j2, jval_eq jb]
          · exact ⟨hB.out, _, _, rfl, fun _ => HRS.out, by simp⟩

end Go.Proofs.YtopmkddmllmecaaGreatDoor
