/- The walk of the law FnKids. -/
import Derived.Test.YthlenhnioocbgaaGreatDoorDrE
import Derived.Test.YthlenhnioocbgaaGreatDoorFnA
import Derived.Test.YthlenhnioocbgaaGreatDoorHtA
import Derived.Test.YthlenhnioocbgaaGreatDoorKdC
import Derived.Test.YthlenhnioocbgaaGreatDoorBsC
import Derived.Test.YthlenhnioocbgaaGreatDoorSpecK
namespace Go.Proofs.YthlenhnioocbgaaGreatDoor
open Go.RowKit Rt Go.Lib

set_option maxHeartbeats 3200000 in
set_option maxRecDepth 100000 in
theorem walkFnKids (A : Option Addr) (n c : Nat) (w : World) (hn : n ≤ maxLen) (hnc : n ≤ c) (hB : Bytes w A n) :
    Calls Tryz.prog 6 #[.slice A n c] w fun e w' => e = .returned (.bool true) ∧ Below w.heap.size w w' := by
  have HD := Lib.hid (drawTermKids_any l1Bag_any A n c w hn hnc hB)
  unfold maxLen at hn
  clear hB
  by_cases h1 : n ≤ 1048576
  · have d0 : decide ((n : Int) > 1048576) = false := by simp; omega
    go_enter Tryz.func6, Tryz.ntmps6
    go_wp2_with fail
    refine HD.out.mono ?_
    rintro e w1 ⟨a, rfl, ha, hb1⟩
    have HB1 := Lib.hid hb1
    clear hb1
    have HN1 : Hid (∀ W, Calls Tryz.prog 27 #[.string ⟨a.toArray⟩] W (KidsPost W (kidsRes a))) := fun W => implTermKids ⟨a.toArray⟩ (by simp [ByteArray.size, maxLen]; omega) W
    have HN2 : Hid (∀ W, Calls Tryz.prog 28 #[.string ⟨a.toArray⟩] W (KidsPost W (kidsRes a))) := fun W => specTermKids l1Bag_any ⟨a.toArray⟩ (by simp [ByteArray.size, maxLen]; omega) W
    have hlen := kidsRes_len a
    have HSM : Hid (∀ (W : World) (A C : Option Addr) (c d : Nat) (ss : List ByteArray), ss.length ≤ 1000000 → Texts W A ss → Texts W C ss → Calls Tryz.prog 19 #[.slice A ss.length c, .slice C ss.length d] W fun e w' => e = .returned (.bool true) ∧ Below W.heap.size W w') := fun W A C c d ss h0 h1 h2 => sameTexts_same A C c d ss W (by unfold maxLen; omega) h1 h2
    obtain ⟨r, hr⟩ : ∃ r, r = kidsRes a := ⟨_, rfl⟩
    rw [← hr] at HN1 HN2 hlen
    obtain ⟨ss, bo⟩ := r
    have hlen' : ss.length ≤ 1000000 := hlen
    have HN1' : Hid (∀ W, Calls Tryz.prog 27 #[.string ⟨a.toArray⟩] W fun e w' => Below W.heap.size W w' ∧ ∃ A c, e = .returned (.tuple #[.slice A ss.length c, .bool bo]) ∧ w'.ownsRow W.heap.size 9 1 (.slice A ss.length c) ss.length (strv ss)) := HN1.out
    have HN2' : Hid (∀ W, Calls Tryz.prog 28 #[.string ⟨a.toArray⟩] W fun e w' => Below W.heap.size W w' ∧ ∃ A c, e = .returned (.tuple #[.slice A ss.length c, .bool bo]) ∧ w'.ownsRow W.heap.size 9 1 (.slice A ss.length c) ss.length (strv ss)) := HN2.out
    clear HN1 HN2 hlen
    cases bo
    · clear hr
      go_wp2_with fail
      refine (HN1'.out w1).mono ?_
      rintro e w2 ⟨hb2, A2, c2, rfl, hown2⟩
      have HB2 := Lib.hid (HB1.out.trans (hb2.mono HB1.out.size))
      have HO2 := Lib.hid hown2
      have hw2 : w1.heap.size ≤ w2.heap.size := hb2.size
      clear hb2 hown2
      go_wp2_with fail
      refine (HN2'.out w2).mono ?_
      rintro e w3 ⟨hb3, A3, c3, rfl, hown3⟩
      have HB3 := Lib.hid (HB2.out.trans (hb3.mono HB2.out.size))
      have HO3 := Lib.hid (own_go HO2.out hb3)
      have HT3 : Hid (Texts w3 A3 ss) := Texts.row hown3
      clear hb3 hown3
      go_wp2_with fail
      refine (HSM.out w3 A2 A3 c2 c3 ss hlen' (Texts.row HO3.out) HT3.out).mono ?_
      rintro e w4 ⟨rfl, hb4⟩
      have HB4 := Lib.hid (HB3.out.trans (hb4.mono HB3.out.size))
      have HO4 := Lib.hid (own_go HO3.out hb4)
      have HT4 := Lib.hid (HT3.out.below hb4)
      clear hb4
      go_wp2_with fail
      refine (HSM.out w4 A2 A3 c2 c3 ss hlen' (Texts.row HO4.out) HT4.out).mono ?_
      rintro e w5 ⟨rfl, hb5⟩
      have HB5 := Lib.hid (HB4.out.trans (hb5.mono HB4.out.size))
      clear hb5
      go_wp2_with fail
      go_ret
      exact ⟨rfl, HB5.out⟩
    · obtain ⟨T, ht⟩ := kidsRes_true a ss hr.symm
      have HV : Hid (∀ W (k : Nat) (x : ByteArray), 1 ≤ k → ss[k]? = some x → Calls Tryz.prog 15 #[.string x] W fun e w' => e = .returned (.bool true) ∧ Below W.heap.size W w') := fun W k x hk hx => by
        have h1 := kids_valid a T ht x (by rw [← hr]; exact List.mem_iff_getElem?.2 ⟨k - 1, by rw [List.getElem?_drop, show 1 + (k - 1) = k from by omega]; exact hx⟩)
        have h2 := implTermValid x (by have := kids_short a x (by rw [← hr]; exact List.mem_of_getElem? hx); unfold maxLen; omega) W
        rw [valid_of_size x.data.toList h1] at h2
        exact h2
      have HZ : Hid (∀ W, Calls Tryz.prog 25 #[.string ⟨a.toArray⟩] W fun e w' => e = .returned (.int .i64 (sizeRes a)) ∧ Below W.heap.size W w') := fun W => implTermSize ⟨a.toArray⟩ (by simp [ByteArray.size, maxLen]; omega) W
      rw [sizeRes_valid a T ht] at HZ
      obtain ⟨n2, hn2⟩ : ∃ n2, n2 = ss.length := ⟨_, rfl⟩
      have HN : Hid (n2 = ss.length) := hn2
      have HSMl : Hid (∀ (W : World) (A C : Option Addr) (c d : Nat), Texts W A ss → Texts W C ss → Calls Tryz.prog 19 #[.slice A n2 c, .slice C n2 d] W fun e w' => e = .returned (.bool true) ∧ Below W.heap.size W w') := fun W A C c d h1 h2 => by
        rw [hn2]; exact HSM.out W A C c d ss hlen' h1 h2
      rw [← hn2] at HN1' HN2' hlen'
      have HROW : Hid (∀ (W : World) (Bb c : Nat) (A : Option Addr), W.ownsRow Bb 9 1 (.slice A n2 c) n2 (strv ss) → Texts W A ss) := fun W Bb c A h => by rw [hn2] at h; exact Texts.row h
      clear HSM
      have hkr := kidsRes_of a T ht
      rw [← hr] at hkr
      simp only [Prod.mk.injEq, and_true] at hkr
      cases T with
      | nm s0 =>
        have hss : ss = [] := hkr
        obtain rfl : n2 = 0 := by rw [hn2, hss]; rfl
        clear hr ht hn2 hss
        go_wp2_with fail
        refine (HN1'.out w1).mono ?_
        rintro e w2 ⟨hb2, A2, c2, rfl, hown2⟩
        have HB2 := Lib.hid (HB1.out.trans (hb2.mono HB1.out.size))
        have HO2 := Lib.hid hown2
        have hw2 : w1.heap.size ≤ w2.heap.size := hb2.size
        clear hb2 hown2
        go_wp2_with fail
        refine (HN2'.out w2).mono ?_
        rintro e w3 ⟨hb3, A3, c3, rfl, hown3⟩
        have HB3 := Lib.hid (HB2.out.trans (hb3.mono HB2.out.size))
        have HO3 := Lib.hid (own_go HO2.out hb3)
        have HT3 : Hid (Texts w3 A3 ss) := HROW.out _ _ _ _ hown3
        clear hb3 hown3
        go_wp2_with fail
        refine (HSMl.out w3 A2 A3 c2 c3 (HROW.out _ _ _ _ HO3.out) HT3.out).mono ?_
        rintro e w4 ⟨rfl, hb4⟩
        have HB4 := Lib.hid (HB3.out.trans (hb4.mono HB3.out.size))
        have HO4 := Lib.hid (own_go HO3.out hb4)
        have HT4 := Lib.hid (HT3.out.below hb4)
        clear hb4
        have HTX : Hid (Texts w4 A2 ss) := HROW.out _ _ _ _ HO4.out
        have hcap : 0 ≤ c2 ∨ 0 = 0 := own_cap2 HO4.out
        go_wp2_with fail
        go_loopw [8] (fun iv wr => ∃ k : Nat, 1 ≤ k ∧ (k ≤ 0 ∨ k = 1) ∧ iv = .int .i64 k ∧ Hid (Texts wr A2 ss) ∧ Hid (Below w.heap.size w wr)) (fun iv _ => 0 - (intOf iv).toNat)
        case atStart => exact ⟨1, Nat.le_refl _, .inr rfl, rfl, HTX.out, HB4.out⟩
        case round =>
          obtain ⟨k, hk1, hk, rfl, htx, hbel⟩ := hrel
          by_cases hlt : k < 0
          · exact absurd hlt (by omega)
          · have HTE := Lib.hid htx.out
            have HBE := Lib.hid hbel.out
            go_wp2_with fail
            refine (HZ.out wr).mono ?_
            rintro e w6 ⟨rfl, hb6⟩
            have HB6 := Lib.hid (HBE.out.trans (hb6.mono HBE.out.size))
            clear hb6
            go_wp2_with fail
            go_ret
            exact ⟨rfl, HB6.out⟩
      | ix i0 =>
        have hss : ss = [] := hkr
        obtain rfl : n2 = 0 := by rw [hn2, hss]; rfl
        clear hr ht hn2 hss
        go_wp2_with fail
        refine (HN1'.out w1).mono ?_
        rintro e w2 ⟨hb2, A2, c2, rfl, hown2⟩
        have HB2 := Lib.hid (HB1.out.trans (hb2.mono HB1.out.size))
        have HO2 := Lib.hid hown2
        have hw2 : w1.heap.size ≤ w2.heap.size := hb2.size
        clear hb2 hown2
        go_wp2_with fail
        refine (HN2'.out w2).mono ?_
        rintro e w3 ⟨hb3, A3, c3, rfl, hown3⟩
        have HB3 := Lib.hid (HB2.out.trans (hb3.mono HB2.out.size))
        have HO3 := Lib.hid (own_go HO2.out hb3)
        have HT3 : Hid (Texts w3 A3 ss) := HROW.out _ _ _ _ hown3
        clear hb3 hown3
        go_wp2_with fail
        refine (HSMl.out w3 A2 A3 c2 c3 (HROW.out _ _ _ _ HO3.out) HT3.out).mono ?_
        rintro e w4 ⟨rfl, hb4⟩
        have HB4 := Lib.hid (HB3.out.trans (hb4.mono HB3.out.size))
        have HO4 := Lib.hid (own_go HO3.out hb4)
        have HT4 := Lib.hid (HT3.out.below hb4)
        clear hb4
        have HTX : Hid (Texts w4 A2 ss) := HROW.out _ _ _ _ HO4.out
        have hcap : 0 ≤ c2 ∨ 0 = 0 := own_cap2 HO4.out
        go_wp2_with fail
        go_loopw [8] (fun iv wr => ∃ k : Nat, 1 ≤ k ∧ (k ≤ 0 ∨ k = 1) ∧ iv = .int .i64 k ∧ Hid (Texts wr A2 ss) ∧ Hid (Below w.heap.size w wr)) (fun iv _ => 0 - (intOf iv).toNat)
        case atStart => exact ⟨1, Nat.le_refl _, .inr rfl, rfl, HTX.out, HB4.out⟩
        case round =>
          obtain ⟨k, hk1, hk, rfl, htx, hbel⟩ := hrel
          by_cases hlt : k < 0
          · exact absurd hlt (by omega)
          · have HTE := Lib.hid htx.out
            have HBE := Lib.hid hbel.out
            go_wp2_with fail
            refine (HZ.out wr).mono ?_
            rintro e w6 ⟨rfl, hb6⟩
            have HB6 := Lib.hid (HBE.out.trans (hb6.mono HBE.out.size))
            clear hb6
            go_wp2_with fail
            go_ret
            exact ⟨rfl, HB6.out⟩
      | lam t =>
        have hss : ss = [⟨#[108, 97, 109]⟩, tb (sort (swp (lOpen sK0) 0 t))] := hkr
        have h22 : n2 = 2 := by rw [hn2, hss]; rfl
        subst h22
        have HS0 : Hid (ss[0]? = some ⟨#[108, 97, 109]⟩) := by show _ = _; rw [hss]; rfl
        clear hr ht hn2 hss
        go_wp2_with fail
        refine (HN1'.out w1).mono ?_
        rintro e w2 ⟨hb2, A2, c2, rfl, hown2⟩
        have HB2 := Lib.hid (HB1.out.trans (hb2.mono HB1.out.size))
        have HO2 := Lib.hid hown2
        have hw2 : w1.heap.size ≤ w2.heap.size := hb2.size
        clear hb2 hown2
        go_wp2_with fail
        refine (HN2'.out w2).mono ?_
        rintro e w3 ⟨hb3, A3, c3, rfl, hown3⟩
        have HB3 := Lib.hid (HB2.out.trans (hb3.mono HB2.out.size))
        have HO3 := Lib.hid (own_go HO2.out hb3)
        have HT3 : Hid (Texts w3 A3 ss) := HROW.out _ _ _ _ hown3
        clear hb3 hown3
        go_wp2_with fail
        refine (HSMl.out w3 A2 A3 c2 c3 (HROW.out _ _ _ _ HO3.out) HT3.out).mono ?_
        rintro e w4 ⟨rfl, hb4⟩
        have HB4 := Lib.hid (HB3.out.trans (hb4.mono HB3.out.size))
        have HO4 := Lib.hid (own_go HO3.out hb4)
        have HT4 := Lib.hid (HT3.out.below hb4)
        clear hb4
        have HTX : Hid (Texts w4 A2 ss) := HROW.out _ _ _ _ HO4.out
        have hcap : 2 ≤ c2 ∨ 2 = 0 := own_cap2 HO4.out
        go_wp2_with fail
        go_loopw [8] (fun iv wr => ∃ k : Nat, 1 ≤ k ∧ (k ≤ 2 ∨ k = 1) ∧ iv = .int .i64 k ∧ Hid (Texts wr A2 ss) ∧ Hid (Below w.heap.size w wr)) (fun iv _ => 2 - (intOf iv).toNat)
        case atStart => exact ⟨1, Nat.le_refl _, .inr rfl, rfl, HTX.out, HB4.out⟩
        case round =>
          obtain ⟨k, hk1, hk, rfl, htx, hbel⟩ := hrel
          by_cases hlt : k < 2
          · obtain ⟨x, hx⟩ : ∃ x, ss[k]? = some x := ⟨_, List.getElem?_eq_getElem (by have := HN.out; omega)⟩
            obtain ⟨g, o, rfl, e0⟩ := htx.out k x hx
            have HVX := Lib.hid (HV.out wr k x hk1 hx)
            clear hx
            go_wp2_with fail
            refine HVX.out.mono ?_
            rintro e w5 ⟨rfl, hb5⟩
            have HB5 := Lib.hid (hbel.out.trans (hb5.mono hbel.out.size))
            have HT5 := Lib.hid (htx.out.below hb5)
            clear hb5
            go_wp2_with fail
            go_roundw
            case rel => exact ⟨k + 1, by omega, by omega, by go_num, HT5.out, HB5.out⟩
            case measure => simp [intOf]; omega
          · have HTE := Lib.hid htx.out
            have HBE := Lib.hid hbel.out
            obtain ⟨g, o, rfl, e0⟩ := HTE.out 0 _ HS0.out
            have e0' : wr.cell? ⟨g, o, none⟩ = some (.string ⟨#[108, 97, 109]⟩) := e0
            go_wp2_with fail
            go_ret
            exact ⟨rfl, HBE.out⟩
      | app t b =>
        have hss : ss = ⟨#[97, 112, 112]⟩ :: tb t :: b.map tb := hkr
        obtain ⟨bl, hbl⟩ : ∃ bl, bl = b.length := ⟨_, rfl⟩
        have h22 : n2 = bl + 2 := by rw [hn2, hss, hbl]; simp
        subst h22
        obtain ⟨k1, k2⟩ := kids_bag a t b ht
        have HS0 : Hid (ss[0]? = some ⟨#[97, 112, 112]⟩) := by show _ = _; rw [hss]; rfl
        have HS1 : Hid (ss[1]? = some (tb t)) := by show _ = _; rw [hss]; rfl
        have HSD : Hid (∀ j, ss[2 + j]? = (b.map tb)[j]?) := fun j => by rw [hss, Nat.add_comm, List.getElem?_cons_succ, List.getElem?_cons_succ]
        have HBL : Hid (bl = b.length) := hbl
        have hbs : ∀ s ∈ b.map tb, s.size ≤ 4000 := fun s hs => kids_short a s (by rw [← hr, hss]; exact List.mem_cons_of_mem _ (List.mem_cons_of_mem _ hs))
        have HBG : Hid (∀ W A c, Texts W A (b.map tb) → Calls Tryz.prog 29 #[.slice A bl c] W fun e w' => e = .returned (.tuple #[.string ⟨(bagT b).toArray⟩, .bool true]) ∧ Below W.heap.size W w') := fun W A c h => by
          have h2 := implBagSort A c (b.map tb) W (by simp; omega) (fun s hs => by have := hbs s hs; unfold maxLen; omega) h
          rw [k1, List.length_map, ← hbl] at h2
          exact h2
        have hfin : ((((⟨#[40, 97, 112, 112, 32]⟩ : ByteArray) ++ tb t) ++ ⟨#[32]⟩) ++ ⟨(bagT b).toArray⟩) ++ ⟨#[41]⟩ = ⟨a.toArray⟩ := by
          apply ByteArray.ext
          apply Array.ext'
          rw [k2]
          simp [tb, ByteArray.data_append]
        have hz1 : (tb t).size ≤ 4000 := kids_short a _ (by rw [← hr, hss]; simp)
        have hz2 : (⟨(bagT b).toArray⟩ : ByteArray).size ≤ 4000 := by rw [k2] at ha; simp [ByteArray.size] at ha ⊢; omega
        have z32 : (⟨#[32]⟩ : ByteArray).size = 1 := rfl
        have z41 : (⟨#[41]⟩ : ByteArray).size = 1 := rfl
        have z5 : (⟨#[40, 97, 112, 112, 32]⟩ : ByteArray).size = 5 := rfl
        have hq1 : (a == a) = true := by simp
        generalize (⟨(bagT b).toArray⟩ : ByteArray) = bgs at *
        generalize tb t = x1 at *
        clear hr ht hn2 hss hbl k1 k2 hbs
        go_wp2_with fail
        refine (HN1'.out w1).mono ?_
        rintro e w2 ⟨hb2, A2, c2, rfl, hown2⟩
        have HB2 := Lib.hid (HB1.out.trans (hb2.mono HB1.out.size))
        have HO2 := Lib.hid hown2
        have hw2 : w1.heap.size ≤ w2.heap.size := hb2.size
        clear hb2 hown2
        go_wp2_with fail
        refine (HN2'.out w2).mono ?_
        rintro e w3 ⟨hb3, A3, c3, rfl, hown3⟩
        have HB3 := Lib.hid (HB2.out.trans (hb3.mono HB2.out.size))
        have HO3 := Lib.hid (own_go HO2.out hb3)
        have HT3 : Hid (Texts w3 A3 ss) := HROW.out _ _ _ _ hown3
        clear hb3 hown3
        go_wp2_with fail
        refine (HSMl.out w3 A2 A3 c2 c3 (HROW.out _ _ _ _ HO3.out) HT3.out).mono ?_
        rintro e w4 ⟨rfl, hb4⟩
        have HB4 := Lib.hid (HB3.out.trans (hb4.mono HB3.out.size))
        have HO4 := Lib.hid (own_go HO3.out hb4)
        have HT4 := Lib.hid (HT3.out.below hb4)
        clear hb4
        have HTX : Hid (Texts w4 A2 ss) := HROW.out _ _ _ _ HO4.out
        have hcap : bl + 2 ≤ c2 ∨ bl + 2 = 0 := own_cap2 HO4.out
        go_wp2_with fail
        go_loopw [8] (fun iv wr => ∃ k : Nat, 1 ≤ k ∧ (k ≤ (bl + 2) ∨ k = 1) ∧ iv = .int .i64 k ∧ Hid (Texts wr A2 ss) ∧ Hid (Below w.heap.size w wr)) (fun iv _ => (bl + 2) - (intOf iv).toNat)
        case atStart => exact ⟨1, Nat.le_refl _, .inr rfl, rfl, HTX.out, HB4.out⟩
        case round =>
          obtain ⟨k, hk1, hk, rfl, htx, hbel⟩ := hrel
          by_cases hlt : k < (bl + 2)
          · obtain ⟨x, hx⟩ : ∃ x, ss[k]? = some x := ⟨_, List.getElem?_eq_getElem (by have := HN.out; omega)⟩
            obtain ⟨g, o, rfl, e0⟩ := htx.out k x hx
            have HVX := Lib.hid (HV.out wr k x hk1 hx)
            clear hx
            go_wp2_with fail
            refine HVX.out.mono ?_
            rintro e w5 ⟨rfl, hb5⟩
            have HB5 := Lib.hid (hbel.out.trans (hb5.mono hbel.out.size))
            have HT5 := Lib.hid (htx.out.below hb5)
            clear hb5
            go_wp2_with fail
            go_roundw
            case rel => exact ⟨k + 1, by omega, by omega, by go_num, HT5.out, HB5.out⟩
            case measure => simp [intOf]; omega
          · have HTE := Lib.hid htx.out
            have HBE := Lib.hid hbel.out
            obtain ⟨g, o, hA2, e0⟩ := HTE.out 0 _ HS0.out
            subst hA2
            obtain ⟨g', o', hA3, e1⟩ := HTE.out 1 _ HS1.out
            injection hA3 with hA3
            injection hA3 with hA3 hA4
            subst hA3
            subst hA4
            have e0' : wr.cell? ⟨g, o, none⟩ = some (.string ⟨#[97, 112, 112]⟩) := e0
            have hc2 : bl + 2 ≤ c2 := by omega
            by_cases hcc : c2 = 2
            · have hbl : bl = 0 := by omega
              subst hcc
              subst hbl
              have HT6 : Hid (Texts wr (some ⟨g, o, none⟩) (b.map tb)) := fun j s hj => by obtain ⟨h0, _⟩ := List.getElem?_eq_some_iff.1 hj; rw [List.length_map, ← HBL.out] at h0; omega
              go_wp2_with fail
              refine (HBG.out wr _ _ HT6.out).mono ?_
              rintro e w6 ⟨rfl, hb6⟩
              have f0 := (hb6.cell (p := ⟨g, o, none⟩) (World.block_lt_of_cell? wr _ e0')).trans e0'
              have f1 := (hb6.cell (p := ⟨g, o + 1, none⟩) (World.block_lt_of_cell? wr _ e1)).trans e1
              have HB6 := Lib.hid (HBE.out.trans (hb6.mono HBE.out.size))
              clear hb6
              go_wp2_with fail
              go_ret
              exact ⟨rfl, HB6.out⟩
            · have HT6 : Hid (Texts wr (some ⟨g, o + 2, none⟩) (b.map tb)) := fun j s hj => by
                obtain ⟨g9, o9, e9, c9⟩ := HTE.out (2 + j) s (by have := HSD.out j; rw [this]; exact hj)
                injection e9 with e9
                injection e9 with e9 e10
                subst e9
                subst e10
                exact ⟨g, o + 2, rfl, by rw [Nat.add_assoc]; exact c9⟩
              go_wp2_with fail
              refine (HBG.out wr _ _ HT6.out).mono ?_
              rintro e w6 ⟨rfl, hb6⟩
              have f0 := (hb6.cell (p := ⟨g, o, none⟩) (World.block_lt_of_cell? wr _ e0')).trans e0'
              have f1 := (hb6.cell (p := ⟨g, o + 1, none⟩) (World.block_lt_of_cell? wr _ e1)).trans e1
              have HB6 := Lib.hid (HBE.out.trans (hb6.mono HBE.out.size))
              clear hb6
              go_wp2_with fail
              go_ret
              exact ⟨rfl, HB6.out⟩
  · have d0 : decide ((n : Int) > 1048576) = true := by simp; omega
    go_enter Tryz.func6, Tryz.ntmps6
    go_wp2_with fail
    go_ret
    exact ⟨rfl, Below.refl _ _⟩

end Go.Proofs.YthlenhnioocbgaaGreatDoor
