/- The walk of the law FnNames. -/
import Derived.Test.YthlenhnioocbgaaGreatDoorDrE
import Derived.Test.YthlenhnioocbgaaGreatDoorFnA
import Derived.Test.YthlenhnioocbgaaGreatDoorHtA
import Derived.Test.YthlenhnioocbgaaGreatDoorNmC
import Derived.Test.YthlenhnioocbgaaGreatDoorNmA
import Derived.Test.YthlenhnioocbgaaGreatDoorDgD
import Derived.Test.YthlenhnioocbgaaGreatDoorKdC
import Derived.Test.YthlenhnioocbgaaGreatDoorSpecK
namespace Go.Proofs.YthlenhnioocbgaaGreatDoor
open Go.RowKit Rt Go.Lib

set_option maxHeartbeats 3200000 in
set_option maxRecDepth 100000 in
theorem walkFnNames (A : Option Addr) (n c : Nat) (w : World) (hn : n ≤ maxLen) (hnc : n ≤ c) (hB : Bytes w A n) :
    Calls Tryz.prog 4 #[.slice A n c] w fun e w' => e = .returned (.bool true) ∧ Below w.heap.size w w' := by
  have HD := Lib.hid (drawTermNames_any l1Bag_any A n c w hn hnc hB)
  unfold maxLen at hn
  clear hB
  by_cases h1 : n ≤ 1048576
  · have d0 : decide ((n : Int) > 1048576) = false := by simp; omega
    go_enter Tryz.func4, Tryz.ntmps4
    go_wp2_with fail
    refine HD.out.mono ?_
    rintro e w1 ⟨a, rfl, ha, hb1⟩
    have HB1 := Lib.hid hb1
    clear hb1
    have HN1 : Hid (∀ W, Calls Tryz.prog 17 #[.string ⟨a.toArray⟩] W (KidsPost W (namesRes a))) := fun W => implTermNames ⟨a.toArray⟩ (by simp [ByteArray.size, maxLen]; omega) W
    have HN2 : Hid (∀ W, Calls Tryz.prog 18 #[.string ⟨a.toArray⟩] W (KidsPost W (namesRes a))) := fun W => specTermNames l1Bag_any ⟨a.toArray⟩ (by simp [ByteArray.size, maxLen]; omega) W
    have hlen := namesRes_len a
    have HSM : Hid (∀ (W : World) (A C : Option Addr) (c d : Nat) (ss : List ByteArray), ss.length ≤ 1000000 → Texts W A ss → Texts W C ss → Calls Tryz.prog 19 #[.slice A ss.length c, .slice C ss.length d] W fun e w' => e = .returned (.bool true) ∧ Below W.heap.size W w') := fun W A C c d ss h0 h1 h2 => sameTexts_same A C c d ss W (by unfold maxLen; omega) h1 h2
    obtain ⟨r, hr⟩ : ∃ r, r = namesRes a := ⟨_, rfl⟩
    rw [← hr] at HN1 HN2 hlen
    obtain ⟨ss, bo⟩ := r
    have hlen' : ss.length ≤ 1000000 := hlen
    have HN1' : Hid (∀ W, Calls Tryz.prog 17 #[.string ⟨a.toArray⟩] W fun e w' => Below W.heap.size W w' ∧ ∃ A c, e = .returned (.tuple #[.slice A ss.length c, .bool bo]) ∧ w'.ownsRow W.heap.size 9 1 (.slice A ss.length c) ss.length (strv ss)) := HN1.out
    have HN2' : Hid (∀ W, Calls Tryz.prog 18 #[.string ⟨a.toArray⟩] W fun e w' => Below W.heap.size W w' ∧ ∃ A c, e = .returned (.tuple #[.slice A ss.length c, .bool bo]) ∧ w'.ownsRow W.heap.size 9 1 (.slice A ss.length c) ss.length (strv ss)) := HN2.out
    clear HN1 HN2 hlen
    cases bo
    · clear hr
      go_wp2_with fail
      refine (HN1'.out w1).mono ?_
      rintro e w2 ⟨hb2, A2, c2, rfl, hown2⟩
      have HB2 := Lib.hid (HB1.out.trans (hb2.mono HB1.out.size))
      have HO2 := Lib.hid hown2
      have hw2 : w1.heap.size ≤ w2.heap.size := hb2.size
      clear hb2 hown2
      go_wp2_with fail
      refine (HN2'.out w2).mono ?_
      rintro e w3 ⟨hb3, A3, c3, rfl, hown3⟩
      have HB3 := Lib.hid (HB2.out.trans (hb3.mono HB2.out.size))
      have HO3 := Lib.hid (own_go HO2.out hb3)
      have HT3 : Hid (Texts w3 A3 ss) := Texts.row hown3
      clear hb3 hown3
      go_wp2_with fail
      refine (HSM.out w3 A2 A3 c2 c3 ss hlen' (Texts.row HO3.out) HT3.out).mono ?_
      rintro e w4 ⟨rfl, hb4⟩
      have HB4 := Lib.hid (HB3.out.trans (hb4.mono HB3.out.size))
      have HO4 := Lib.hid (own_go HO3.out hb4)
      have HT4 := Lib.hid (HT3.out.below hb4)
      clear hb4
      go_wp2_with fail
      refine (HSM.out w4 A2 A3 c2 c3 ss hlen' (Texts.row HO4.out) HT4.out).mono ?_
      rintro e w5 ⟨rfl, hb5⟩
      have HB5 := Lib.hid (HB4.out.trans (hb5.mono HB4.out.size))
      clear hb5
      go_wp2_with fail
      go_ret
      exact ⟨rfl, HB5.out⟩
    · obtain ⟨t, ht, hss⟩ := namesRes_true a ss hr.symm
      subst hss
      obtain ⟨l, hll⟩ : ∃ l, l = nmL t := ⟨_, rfl⟩
      obtain ⟨o1, o2⟩ := termOf_ok a t ht
      have HIN : Hid (∀ x ∈ l, isName x = true ∧ 1 ≤ degRes a x) := by
        intro x hx
        rw [hll, nmL_mem 0 t o1] at hx
        have h1 := names_ok 0 t o1 x hx
        refine ⟨h1, ?_⟩
        rw [degRes_of a x t ht h1]
        have := List.count_pos_iff.2 hx
        omega
      have HND : Hid (∀ (k : Nat) (x : B), l[k]? = some x → x ∉ l.take k) := by
        show ∀ k x, _ → _
        rw [hll]
        exact nodup_take (nmL_nodup t)
      have HQ : Hid (degRes a [113, 57] = 0 ∨ (0 < degRes a [113, 57] ∧ [113, 57] ∈ l)) := by
        show _ ∨ _
        rw [hll, degRes_of a _ t ht q9_name, nmL_mem 0 t o1]
        rcases Nat.eq_zero_or_pos ((names t).count [113, 57]) with h | h
        · exact .inl (by rw [h]; rfl)
        · exact .inr ⟨by omega, List.count_pos_iff.1 h⟩
      have hbl := bys_len l
      rw [← hll] at HN1' HN2' hlen'
      have hl60 : l.length ≤ 60 := by have := nmL_len t; rw [hll]; omega
      have HDG : Hid (∀ W (x : B), x.length ≤ 1000 → Calls Tryz.prog 20 #[.string ⟨a.toArray⟩, .string ⟨x.toArray⟩] W fun e w' => e = .returned (.int .i64 (degRes a x)) ∧ Below W.heap.size W w') := fun W x hx => implTermDegree ⟨a.toArray⟩ x (by simp [ByteArray.size, maxLen]; omega) (by unfold maxLen; omega) W
      have HHT : Hid (∀ W A c k (x : B), k ≤ l.length → Texts W A (bys l) → Calls Tryz.prog 21 #[.slice A k c, .string ⟨x.toArray⟩] W fun e w' => e = .returned (.bool (decide (x ∈ l.take k))) ∧ Below W.heap.size W w') := fun W A c k x hk h => hasText_any A k c (l.take k) x W (by rw [List.length_take]; omega) (by omega) (h.take k)
      clear hr ht hll o1
      have HSMl : Hid (∀ (W : World) (A C : Option Addr) (c d : Nat), Texts W A (bys l) → Texts W C (bys l) → Calls Tryz.prog 19 #[.slice A l.length c, .slice C l.length d] W fun e w' => e = .returned (.bool true) ∧ Below W.heap.size W w') := fun W A C c d h1 h2 => by
        have h := HSM.out W A C c d (bys l) hlen' h1 h2
        rw [hbl] at h
        exact h
      rw [hbl] at HN1' HN2'
      go_wp2_with fail
      refine (HN1'.out w1).mono ?_
      rintro e w2 ⟨hb2, A2, c2, rfl, hown2⟩
      have HB2 := Lib.hid (HB1.out.trans (hb2.mono HB1.out.size))
      have HO2 := Lib.hid hown2
      have hw2 : w1.heap.size ≤ w2.heap.size := hb2.size
      clear hb2 hown2
      go_wp2_with fail
      refine (HN2'.out w2).mono ?_
      rintro e w3 ⟨hb3, A3, c3, rfl, hown3⟩
      have HB3 := Lib.hid (HB2.out.trans (hb3.mono HB2.out.size))
      have HO3 := Lib.hid (own_go HO2.out hb3)
      have HT3 : Hid (Texts w3 A3 (bys l)) := texts_bys hown3
      clear hb3 hown3
      go_wp2_with fail
      refine (HSMl.out w3 A2 A3 c2 c3 (texts_bys HO3.out) HT3.out).mono ?_
      rintro e w4 ⟨rfl, hb4⟩
      have HB4 := Lib.hid (HB3.out.trans (hb4.mono HB3.out.size))
      have HO4 := Lib.hid (own_go HO3.out hb4)
      have HT4 := Lib.hid (HT3.out.below hb4)
      clear hb4
      have HTX : Hid (Texts w4 A2 (bys l)) := texts_bys HO4.out
      have hcap : l.length ≤ c2 ∨ l.length = 0 := own_cap2 HO4.out
      go_wp2_with fail
      go_loopw [8] (fun iv wr => ∃ k : Nat, k ≤ l.length ∧ iv = .int .i64 k ∧ Hid (Texts wr A2 (bys l)) ∧ Hid (Below w.heap.size w wr)) (fun iv _ => l.length - (intOf iv).toNat)
      case atStart => exact ⟨0, Nat.zero_le _, rfl, HTX.out, HB4.out⟩
      case round =>
        obtain ⟨k, hk, rfl, htx, hbel⟩ := hrel
        by_cases hlt : k < l.length
        · obtain ⟨x, hx⟩ : ∃ x, l[k]? = some x := ⟨_, List.getElem?_eq_getElem hlt⟩
          obtain ⟨g, o, rfl, e0⟩ := htx.out.at k x hx
          obtain ⟨hx1, hx2⟩ := HIN.out x (List.mem_of_getElem? hx)
          have hx3 := name_len x hx1
          have hkc : k ≤ c2 := by omega
          have HNT := Lib.hid (HND.out k x hx)
          have E0 := Lib.hid e0
          have HD1 : Hid (∀ W, Calls Tryz.prog 20 #[.string ⟨a.toArray⟩, .string ⟨x.toArray⟩] W fun e w' => e = .returned (.int .i64 (degRes a x)) ∧ Below W.heap.size W w') := fun W => HDG.out W x (by omega)
          have HHK : Hid (∀ W, Texts W (some ⟨g, o, none⟩) (bys l) → Calls Tryz.prog 21 #[.slice (some ⟨g, o, none⟩) k c2, .string ⟨x.toArray⟩] W fun e w' => e = .returned (.bool false) ∧ Below W.heap.size W w') := fun W h => by
            have h2 := HHT.out W _ c2 k x hk h
            rw [show decide (x ∈ l.take k) = false from by simpa using HNT.out] at h2
            exact h2
          generalize degRes a x = d at HD1 hx2
          have d1 : decide (d < 1) = false := by rw [decide_eq_false_iff_not]; omega
          clear hx
          go_wp2_with fail
          refine wp_region_any (by kernel_rfl) ?_
          change wpAny _ _ _ _ _ _ _ (World.drew _)
          refine wpAny_take (i := 0) (v := ?_) rfl (by kernel_rfl) (by kernel_rfl) (by kernel_rfl) (fun _ _ _ h => h) (Or.inl ⟨by rfl, ?_⟩) ?_
          rotate_left
          · (intro W; go_simp; try with_reducible rfl)
          try go_simp
          refine wpAny_take (i := 1) (v := ?_) rfl (by kernel_rfl) (by kernel_rfl) (by kernel_rfl) (fun _ _ _ h => h) (Or.inl ⟨by rfl, ?_⟩) ?_
          rotate_left
          · (intro W; go_simp; try with_reducible rfl)
          try go_simp
          refine wpAny_take (i := 2) (v := ?_) rfl (by kernel_rfl) (by kernel_rfl) (by kernel_rfl) (fun _ _ _ h => h) (Or.inl ⟨by rfl, ?_⟩) ?_
          rotate_left
          · (intro W; go_simp; try with_reducible rfl)
          try go_simp
          refine wpAny_take (i := 3) (v := ?_) rfl (by kernel_rfl) (by kernel_rfl) (by kernel_rfl) (fun _ _ _ h => h) (Or.inl ⟨by rfl, ?_⟩) ?_
          rotate_left
          · (intro W; go_simp; try with_reducible rfl)
          try go_simp
          refine wpAny_ready (rs := [4]) (by kernel_rfl) (by simp) ?_
          refine AllReady.cons rfl (fun K hK => ?_) AllReady.nil
          go_simp
          refine hK _ _ ?_
          clear hK K
          try go_simp
          refine wpAny_ready (rs := [5]) (by kernel_rfl) (by simp) ?_
          refine AllReady.cons rfl (fun K hK => ?_) AllReady.nil
          go_simp
          go_wp2_with (go_at_call 20; (with_reducible refine (HD1.out _).mono ?_); rintro e w5 ⟨rfl, hb5⟩; have f5 := cell_after E0.out hb5; have HT5 := Lib.hid (texts_after htx.out hb5); have HB5 := Lib.hid (below_after hbel.out hbel.out.size hb5); clear hb5)
          try (refine hK _ _ ?_; clear hK K)
          try go_simp
          refine wpAny_take (i := 6) (v := ?_) rfl (by kernel_rfl) (by kernel_rfl) (by kernel_rfl) (fun _ _ _ h => h) (Or.inl ⟨by rfl, ?_⟩) ?_
          rotate_left
          · (intro W; go_simp; try with_reducible rfl)
          try go_simp
          refine wpAny_take (i := 7) (v := ?_) rfl (by kernel_rfl) (by kernel_rfl) (by kernel_rfl) (fun _ _ _ h => h) (Or.inl ⟨by rfl, ?_⟩) ?_
          rotate_left
          · (intro W; go_simp; try with_reducible rfl)
          try go_simp
          refine wpAny_take (i := 8) (v := ?_) rfl (by kernel_rfl) (by kernel_rfl) (by kernel_rfl) (fun _ _ _ h => h) (Or.inl ⟨by rfl, ?_⟩) ?_
          rotate_left
          · (intro W; go_simp; try with_reducible rfl)
          try go_simp
          refine wpAny_take (i := 9) (v := ?_) rfl (by kernel_rfl) (by kernel_rfl) (by kernel_rfl) (fun _ _ _ h => h) (Or.inl ⟨by rfl, ?_⟩) ?_
          rotate_left
          · (intro W; go_simp; try with_reducible rfl)
          try go_simp
          refine wpAny_take (i := 10) (v := ?_) rfl (by kernel_rfl) (by kernel_rfl) (by kernel_rfl) (fun _ _ _ h => h) (Or.inl ⟨by rfl, ?_⟩) ?_
          rotate_left
          · (intro W; go_simp; try with_reducible rfl)
          try go_simp
          refine wpAny_take (i := 11) (v := ?_) rfl (by kernel_rfl) (by kernel_rfl) (by kernel_rfl) (fun _ _ _ h => h) (Or.inl ⟨by rfl, ?_⟩) ?_
          rotate_left
          · (intro W; go_simp; try with_reducible rfl)
          try go_simp
          refine wpAny_take (i := 12) (v := ?_) rfl (by kernel_rfl) (by kernel_rfl) (by kernel_rfl) (fun _ _ _ h => h) (Or.inl ⟨by rfl, ?_⟩) ?_
          rotate_left
          · (intro W; go_simp; try with_reducible rfl)
          try go_simp
          refine wpAny_take (i := 13) (v := ?_) rfl (by kernel_rfl) (by kernel_rfl) (by kernel_rfl) (fun _ _ _ h => h) (Or.inl ⟨by rfl, ?_⟩) ?_
          rotate_left
          · (intro W; go_simp; try with_reducible rfl)
          try go_simp
          refine wpAny_ready (rs := [14]) (by kernel_rfl) (by simp) ?_
          refine AllReady.cons rfl (fun K hK => ?_) AllReady.nil
          go_simp
          refine hK _ _ ?_
          clear hK K
          try go_simp
          refine wpAny_ready (rs := [15]) (by kernel_rfl) (by simp) ?_
          refine AllReady.cons rfl (fun K hK => ?_) AllReady.nil
          go_simp
          go_wp2_with (go_at_call 21; (with_reducible refine (HHK.out _ HT5.out).mono ?_); rintro e w6 ⟨rfl, hb6⟩; have HB6 := Lib.hid (HB5.out.trans (hb6.mono HB5.out.size)); have HT6 := Lib.hid (HT5.out.below hb6); clear hb6)
          try (refine hK _ _ ?_; clear hK K)
          try go_simp
          refine wpAny_take (i := 16) (v := ?_) rfl (by kernel_rfl) (by kernel_rfl) (by kernel_rfl) (fun _ _ _ h => h) (Or.inl ⟨by rfl, ?_⟩) ?_
          rotate_left
          · (intro W; go_simp; try with_reducible rfl)
          try go_simp
          refine wpAny_done (by kernel_rfl) ?_ _
          go_wp2_with fail
          go_roundw
          case rel => exact ⟨k + 1, by omega, by go_num, HT6.out, HB6.out⟩
          case measure => simp [intOf]; omega
        · obtain rfl : k = l.length := by omega
          have HD1 : Hid (Calls Tryz.prog 20 #[.string ⟨a.toArray⟩, .string ⟨#[113, 57]⟩] wr fun e w' => e = .returned (.int .i64 (degRes a [113, 57])) ∧ Below wr.heap.size wr w') := HDG.out wr [113, 57] (by decide)
          have HH1 : Hid (∀ W c, Texts W A2 (bys l) → Calls Tryz.prog 21 #[.slice A2 l.length c, .string ⟨#[113, 57]⟩] W fun e w' => e = .returned (.bool (decide ([113, 57] ∈ l.take l.length))) ∧ Below W.heap.size W w') := fun W c h => HHT.out W A2 c l.length [113, 57] (Nat.le_refl _) h
          rw [List.take_length] at HH1
          rcases HQ.out with hq | ⟨hq, hm⟩
          · rw [hq] at HD1
            go_wp2_with fail
            refine HD1.out.mono ?_
            rintro e w5 ⟨rfl, hb5⟩
            have HB5 := Lib.hid (hbel.out.trans (hb5.mono hbel.out.size))
            clear hb5
            go_wp2_with fail
            go_ret
            exact ⟨rfl, HB5.out⟩
          · rw [show decide ([113, 57] ∈ l) = true from by simpa using hm] at HH1
            generalize degRes a [113, 57] = d at HD1 hq
            have d1 : (d == 0) = false := by simp; omega
            go_wp2_with fail
            refine HD1.out.mono ?_
            rintro e w5 ⟨rfl, hb5⟩
            have HB5 := Lib.hid (hbel.out.trans (hb5.mono hbel.out.size))
            have HT5 := Lib.hid (htx.out.below hb5)
            clear hb5
            go_wp2_with fail
            refine (HH1.out w5 c2 HT5.out).mono ?_
            rintro e w6 ⟨rfl, hb6⟩
            have HB6 := Lib.hid (HB5.out.trans (hb6.mono HB5.out.size))
            clear hb6
            go_wp2_with fail
            go_ret
            exact ⟨rfl, HB6.out⟩
  · have d0 : decide ((n : Int) > 1048576) = true := by simp; omega
    go_enter Tryz.func4, Tryz.ntmps4
    go_wp2_with fail
    go_ret
    exact ⟨rfl, Below.refl _ _⟩

end Go.Proofs.YthlenhnioocbgaaGreatDoor
