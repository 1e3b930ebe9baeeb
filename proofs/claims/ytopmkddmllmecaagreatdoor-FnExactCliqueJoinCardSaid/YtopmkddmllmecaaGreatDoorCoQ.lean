/- The model's l5Join at any clique, and CliqueJoin. -/
import Derived.Test.YtopmkddmllmecaaGreatDoorCoP
import Derived.Test.YtopmkddmllmecaaGreatDoorCoK
set_option linter.unusedSimpArgs false
set_option linter.unusedVariables false
namespace Go.Proofs.YtopmkddmllmecaaGreatDoor
open Go.RowKit Rt Go.Lib

theorem join_any : ∀ (j : Jt) (l : List Term), Rt.Good l j → jshort j → sizes l ≤ 100000000 → JSaid l j
  | .un, l, h, _, _ => by rw [good_nil h]; exact join_un
  | .at s, l, h, hs, hz => by
    have hl := sizes_len l
    cases h with
    | atom _ _ h1 h2 => exact join_at l s hs.1 h1 (by omega) h2
  | .lam j, l, h, hs, hz => by
    cases h with
    | lam _ m _ h1 h2 h3 =>
      subst h2
      rw [sizes_maplam] at hz
      have hl := sizes_len m
      exact join_lam m j h1 (by omega) (join_any j m h3 hs (by omega))
  | .app j k, l, h, hs, hz => by
    cases h with
    | app _ m _ _ h1 h2 h3 h4 =>
      subst h2
      rw [sizes_mapapp] at hz
      have hl := sizes_len (m.flatMap (·.2))
      exact join_app m j k h1 (by omega) (by omega) (join_any j _ h3 hs.1 (by omega)) (join_any k _ h4 hs.2 (by omega))

set_option maxHeartbeats 1600000 in
set_option maxRecDepth 100000 in
theorem specCliqueJoin (A : Option Addr) (c : Nat) (ss : List ByteArray) (w : World) (hn : ss.length ≤ 1048576) (hs : ∀ s ∈ ss, s.size ≤ maxLen) (hA : Texts w A ss) :
    Calls Tryz.prog 30 #[.slice A ss.length c] w fun e w' => e = .returned (.tuple #[st (joinRes ss).1, .bool (joinRes ss).2]) ∧ Below w.heap.size w w' := by
  have HTR := Lib.hid (l3Trees_any A c ss w hn hs hA)
  have HCL : Hid (∀ W, Below w.heap.size w W → Calls Tryz.prog 26 #[.slice A ss.length c] W fun e w' => e = .returned (.bool (joinT ss).isSome) ∧ Below W.heap.size W w') := fun W hW => specClique A c ss W hn hs (hA.below hW)
  have HRES : Hid (joinRes ss = match joinT ss with | none => ([], false) | some j => if ss ≠ [] ∧ jsize j ≤ 60 then (jtext j, true) else ([], false)) := rfl
  have HGD : Hid (∀ j, joinT ss = some j → ∃ ts, termsOf ss = some ts ∧ Rt.Good ts j) := fun j h => joinT_good ss j h
  have HSZ : Hid (∀ j, joinT ss = some j → jsize j ≤ 200000000 ∧ jshort j ∧ wfT (jtree j) = true) := fun j h => ⟨by have := joinT_size ss j h; omega, joinT_short ss j h, joinT_wf ss j h⟩
  have HTS : Hid (∀ ts, termsOf ss = some ts → sizes ts ≤ 100000000) := fun ts h => by
    obtain ⟨h1, _, h3⟩ := termsOf_ok ss ts h
    have := sizes_max ts h3; omega
  have HTN : Hid (termsOf ss = none → joinT ss = none) := fun h => by unfold joinT; rw [h]
  have hnil : ss = [] ↔ ss.length = 0 := by simp
  have HNIL := Lib.hid hnil
  clear hs hA hnil
  generalize joinT ss = R at *
  generalize termsOf ss = T at *
  generalize joinRes ss = x at *
  generalize ss.length = n at *
  have fin : ∀ (w' : World), Hid (x = ([], false)) → Hid (Below w.heap.size w w') → (Ending.returned (.tuple #[.string ⟨#[]⟩, .bool false]) = Ending.returned (.tuple #[st x.1, .bool x.2]) ∧ Below w.heap.size w w') := fun w' h hb => by
    rw [h.out]; exact ⟨rfl, hb.out⟩
  have FIN := Lib.hid fin
  clear fin hn
  go_enter Tryz.func30, Tryz.ntmps30
  go_wp2_with fail
  refine HTR.out.mono ?_
  intro e w2 hp
  cases T with
  | none =>
    obtain ⟨hb2, v, rfl⟩ := hp
    have HB2 := Lib.hid hb2
    have HX : Hid (x = ([], false)) := by show _ = _; rw [HRES.out, HTN.out rfl]
    clear hb2
    go_wp2_with fail
    go_ret2
    exact FIN.out _ HX HB2
  | some ts =>
    obtain ⟨hb2, v, xs, rfl, htr⟩ := hp
    have HB2 := Lib.hid hb2
    have HTRW := Lib.hid htr
    have hts := HTS.out ts rfl
    clear hb2 htr
    by_cases h0 : n = 0
    · have HX : Hid (x = ([], false)) := by
        show _ = _
        rw [HRES.out]
        cases R with
        | none => rfl
        | some j => simp only; rw [if_neg (fun h => h.1 (HNIL.out.2 h0))]
      have hq : ((n : Int) == 0) = true := by simpa using (by omega : (n : Int) = 0)
      clear h0
      go_wp2_with fail
      go_ret2
      exact FIN.out _ HX HB2
    · have hq : ((n : Int) == 0) = false := by simpa using (by omega : (n : Int) ≠ 0)
      have HNE : Hid (ss ≠ []) := fun h => h0 (HNIL.out.1 h)
      have HCL2 := Lib.hid (HCL.out w2 HB2.out)
      clear h0
      cases R with
      | none =>
        have HX : Hid (x = ([], false)) := HRES.out
        simp only [Option.isSome_none] at HCL2
        go_wp2_with fail
        refine HCL2.out.mono ?_
        rintro e w3 ⟨rfl, hb3⟩
        have HB3 := Lib.hid (HB2.out.trans (hb3.mono HB2.out.size))
        clear hb3
        go_wp2_with fail
        go_ret2
        exact FIN.out _ HX HB3
      | some j =>
        simp only [Option.isSome_some] at HCL2
        obtain ⟨hz, hsh, hwf⟩ := HSZ.out j rfl
        obtain ⟨ts', ht', hg⟩ := HGD.out j rfl
        obtain rfl := Option.some.inj ht'
        have HJ := Lib.hid (join_any j ts hg hsh hts)
        have HWF := Lib.hid hwf
        have hnd := nodes_jtree j
        have HJN := Lib.hid (jn_jtree j)
        have hlen := jtext_len j hsh
        clear hg ht' hwf
        go_wp2_with fail
        refine HCL2.out.mono ?_
        rintro e w3 ⟨rfl, hb3⟩
        have HB3 := Lib.hid (HB2.out.trans (hb3.mono HB2.out.size))
        have HJ3 := Lib.hid (HJ.out v xs w3 (HTRW.out.keep (below_keeps hb3)))
        clear hb3
        go_wp2_with fail
        refine HJ3.out.mono ?_
        rintro e w4 ⟨hb4, v4, rfl, hr4⟩
        obtain ⟨u4, A4, n4, c4, rfl⟩ := repS_shape (RepSF.rep _ _ hr4)
        have HB4 := Lib.hid (HB3.out.trans (hb4.mono HB3.out.size))
        have HR4 := Lib.hid (RepSF.rep _ _ hr4)
        have hbox := Blk.new w4 84 #[.string ⟨u4.toArray⟩, .slice A4 n4 c4]
        have hbo := below_one w4 (.cells #[.string ⟨u4.toArray⟩, .slice A4 n4 c4] 84)
        clear hb4 hr4
        go_upto_region 5 with fail
        generalize w4.alloc (.cells #[.string ⟨u4.toArray⟩, .slice A4 n4 c4] 84) = W4 at *
        have HBO := Lib.hid hbo
        have HB5 := Lib.hid (HB4.out.trans (hbo.mono HB4.out.size))
        obtain ⟨q0, q1, -, -⟩ := blk_cells hbox
        have HN5 := Lib.hid (l5Nodes_any (nodes (jtree j)) (jtree j) _ W4 (Nat.le_refl _) (by omega) (HR4.out.keep (below_keeps hbo)))
        rw [HJN.out] at HN5
        have HBX := Lib.hid hbox
        clear hbo hbox
        go_wp2_with fail
        refine HN5.out.mono ?_
        rintro e w6 ⟨rfl, hb6⟩
        have HB6 := Lib.hid (HB5.out.trans (hb6.mono HB5.out.size))
        have hX6 := HBX.out.below hb6 HBX.out.lt
        obtain ⟨r0, r1, -, -⟩ := blk_cells hX6
        have HR6 := Lib.hid (HR4.out.keep ((below_keeps HBO.out).trans (below_keeps hb6)))
        clear hb6 hX6 q0 q1
        by_cases h60 : jsize j ≤ 60
        · have HX : Hid (x = (jtext j, true)) := by show _ = _; rw [HRES.out]; exact if_pos ⟨HNE.out, h60⟩
          have hq2 : decide ((60 : Int) < (jsize j : Int)) = false := by simp; omega
          have hq3 : decide ((jsize j : Int) > 60) = false := by simp; omega
          have HT := Lib.hid (l1Text_any (nodes (jtree j)) (jtree j) _ w6 (Nat.le_refl _) HR6.out HWF.out (by show (jtext j).length ≤ 1000000; omega))
          go_wp2_with fail
          refine HT.out.mono ?_
          rintro e w7 ⟨rfl, hb7⟩
          have HB7 := Lib.hid (HB6.out.trans (hb7.mono HB6.out.size))
          clear hb7
          go_wp2_with fail
          go_ret2
          exact ⟨by rw [HX.out]; rfl, HB7.out⟩
        · have HX : Hid (x = ([], false)) := by show _ = _; rw [HRES.out]; exact if_neg (fun h => h60 h.2)
          have hq2 : decide ((60 : Int) < (jsize j : Int)) = true := by simp; omega
          have hq3 : decide ((jsize j : Int) > 60) = true := by simp; omega
          go_wp2_with fail
          go_ret2
          exact FIN.out _ HX HB6

end Go.Proofs.YtopmkddmllmecaaGreatDoor
