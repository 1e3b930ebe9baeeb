/- The model's TermOpen. -/
import Derived.Test.YtomaknmemhpghaaGreatDoorSpD
import Derived.Test.YtomaknmemhpghaaGreatDoorSpE
import Derived.Test.YtomaknmemhpghaaGreatDoorDgD
import Derived.Test.YtomaknmemhpghaaGreatDoorOpA
namespace Go.Proofs.YtomaknmemhpghaaGreatDoor
open Go.RowKit Rt

theorem atomSaid_open (b : B) (hb : isName b = true) : AtomSaid ⟨#[]⟩ ⟨b.toArray⟩ 0 (lOpen b) 1 where
  nm := fun F s k w hk hs => by
    have h := swap_open_atom b (name_ne b hb) F s k w hk
    rw [if_neg (fun e => name_dec s hs k hk e.symm)] at h
    exact h
  ix := fun F i k w hk _ hi => by
    have h := swap_open_atom b (name_ne b hb) F (dec i) k w hk
    have e : ofTerm (lOpen b k (.ix i)) = .atom (if dec i = dec k then b else dec i) := by
      unfold lOpen
      simp only
      by_cases e : i = k
      · subst e; simp [ofTerm]
      · rw [if_neg e, if_neg (fun h => e (dec_inj i k hi hk h))]; rfl
    rw [e]; exact h

theorem open_res (a : B) (r : Option Term) (x : B × Bool) (hx : x = match r with | some (.lam t) => if isName a = true ∧ (names t).count a = 0 then (text (sort (swp (lOpen a) 0 t)), true) else ([], false) | _ => ([], false)) (T : Term) (hr : r = some T) (hk : headT (ofTerm T) ≠ sLam) : x = ([], false) := by
  subst hr
  rw [hx]
  cases T with
  | lam u => exact absurd rfl hk
  | nm s => rfl
  | ix n => rfl
  | app t b => rfl

set_option maxHeartbeats 3200000 in
set_option maxRecDepth 100000 in
theorem specTermOpen (hBag : BagSaid) (s : ByteArray) (a : B) (hs : s.size ≤ maxLen) (ha : a.length ≤ maxLen) (w : World) :
    Calls Tryz.prog 48 #[.string s, .string ⟨a.toArray⟩] w fun e w' => e = .returned (.tuple #[st (openRes s.data.toList a).1, .bool (openRes s.data.toList a).2]) ∧ Below w.heap.size w w' := by
  have HC := Lib.hid (l1Term_any hBag s hs w)
  have HA : Hid (∀ W, Calls Tryz.prog 66 #[.string ⟨a.toArray⟩] W fun e w' => e = .returned (.bool (isName a)) ∧ W = w') := fun W => l1Name_any ⟨a.toArray⟩ W (by simpa [ByteArray.size] using ha)
  have HT : Hid (openRes s.data.toList a = match termOf s.data.toList with | some (.lam t) => if isName a = true ∧ (names t).count a = 0 then (text (sort (swp (lOpen a) 0 t)), true) else ([], false) | _ => ([], false)) := rfl
  have HOK : Hid (∀ t, termOf s.data.toList = some t → ok 0 t = true ∧ size t ≤ 60) := fun t h => termOf_ok _ t h
  generalize openRes s.data.toList a = x at HT ⊢
  generalize termOf s.data.toList = r at HC HT HOK
  go_enter Tryz.func48, Tryz.ntmps48
  go_wp2_with fail
  refine HC.out.mono ?_
  intro e w2 hp
  cases r with
  | none =>
    obtain ⟨hb2, u, A, n, c, rfl⟩ := hp
    have hs2 := hb2.size
    have HB2 := Lib.hid hb2
    clear hb2
    go_wp2_with fail
    go_ret2
    exact ⟨by rw [HT.out]; rfl, HB2.out.alloc hs2 _⟩
  | some T =>
    obtain ⟨hb2, v, rfl, hr⟩ := hp
    obtain ⟨o1, o2⟩ := HOK.out T rfl
    by_cases hk : kindOf T = 2
    · obtain ⟨t, rfl⟩ := kind_lam T hk
      have hs2 := hb2.size
      have hR : ∀ W, Below w2.heap.size w2 W → RepSF (fun _ => True) W (ofTerm (.lam t)) v := fun W hW => RepSF.move (fun k _ hk => hW.block k hk) (fun _ _ _ => trivial) _ _ hr
      obtain ⟨bb, cc, y0, x1, y1, rfl, h1, h2, -, -, c2, c3, ht⟩ := repSF_lam hr
      have hRT : ∀ W, Below w2.heap.size w2 W → RepSF (fun _ => True) W (ofTerm t) (.agg #[x1, y1]) := fun W hW => RepSF.move (fun k _ hk => hW.block k hk) (fun _ _ _ => trivial) _ _ ht
      have hbox := Blk.new w2 55 #[.string ⟨#[]⟩, .slice (some ⟨bb, 0, none⟩) 2 cc]
      have hbw := below_one w2 (.cells #[.string ⟨#[]⟩, .slice (some ⟨bb, 0, none⟩) 2 cc] 55)
      have HH : Hid (Calls Tryz.prog 72 #[.agg #[.string ⟨#[]⟩, .slice (some ⟨bb, 0, none⟩) 2 cc]] (w2.alloc (.cells #[.string ⟨#[]⟩, .slice (some ⟨bb, 0, none⟩) 2 cc] 55)) fun e w' => e = .returned (.string ⟨#[108, 97, 109]⟩) ∧ Below (w2.alloc (.cells #[.string ⟨#[]⟩, .slice (some ⟨bb, 0, none⟩) 2 cc] 55)).heap.size (w2.alloc (.cells #[.string ⟨#[]⟩, .slice (some ⟨bb, 0, none⟩) 2 cc] 55)) w') :=
        l1Head_any (ofTerm (.lam t)) _ _ (RepSF.rep _ _ (hR _ hbw))
      have HD : Hid (∀ W, Below w2.heap.size w2 W → Calls Tryz.prog 79 #[.agg #[.string ⟨#[]⟩, .slice (some ⟨bb, 0, none⟩) 2 cc], .string ⟨a.toArray⟩] W fun e w' => e = .returned (.int .i64 ((atoms (.lam t)).count a : Nat)) ∧ Below W.heap.size W w') := fun W hW => l1Degree_any _ (.lam t) a _ W o2 (hR W hW)
      have HBOX := Lib.hid hbox
      have HB2 := Lib.hid (hb2.alloc hs2 (.cells #[.string ⟨#[]⟩, .slice (some ⟨bb, 0, none⟩) 2 cc] 55))
      have HBW := Lib.hid hbw
      have C2 := Lib.hid c2
      have C3 := Lib.hid c3
      have HRT := Lib.hid hRT
      have o1' : ok 1 t = true := by rw [ok] at o1; exact o1
      have o3 : size t ≤ 59 := by rw [Rt.size] at o2; omega
      have HO := Lib.hid o1'
      have HOL := Lib.hid o1
      unfold maxLen at h2
      clear hb2 hr hR hRT c2 c3 ht hbox hbw o1 o1' hk
      rw [show st [] = Value.string ⟨#[]⟩ from rfl]
      cases h3 : isName a
      · rw [h3] at HA
        have HX : Hid (x = ([], false)) := by show _ = _; rw [HT.out]; simp [h3]
        clear h3
        go_wp2_with (first
          | (go_at_call 72; refine HH.out.mono ?_; rintro e w3 ⟨rfl, hb3⟩; have HB3 := Lib.hid hb3; clear hb3)
          | (go_at_call 66; refine (HA.out _).mono ?_; rintro e w' ⟨rfl, rfl⟩))
        go_ret2
        exact ⟨by rw [HX.out]; rfl, HB2.out.trans (HB3.out.mono HB2.out.size)⟩
      · rw [h3] at HA
        have hca : (atoms (.lam t)).count a = (names t).count a := count_atoms 0 (.lam t) HOL.out a h3
        rw [hca] at HD
        have hcl : (names t).count a ≤ 60 := by have h4 := List.count_le_length (a := a) (l := names t); have := names_len t; omega
        by_cases h4 : (names t).count a = 0
        · obtain ⟨z1, z2⟩ := swp_ok (lOpen a) 1 0 (lOpen_ok a h3) t 0 (by omega) HO.out
          have z2' : ok 0 (swp (lOpen a) 0 t) = true := z2
          have HX : Hid (x = (text (sort (swp (lOpen a) 0 t)), true)) := by show _ = _; rw [HT.out]; simp [h3, h4]
          rw [h4] at HD
          have hSW := Lib.hid (l1Swap_any ⟨#[]⟩ ⟨a.toArray⟩ 0 (lOpen a) 1 (atomSaid_open a h3) 60)
          have htv := termOf_text (swp (lOpen a) 0 t) z2' (by omega)
          rw [if_pos (by omega)] at htv
          have z3 := text_size _ _ z2'
          have z4 := text_sort_len (swp (lOpen a) 0 t)
          have HZ2 := Lib.hid z2'
          have HWF := Lib.hid (wf_ofTerm 0 (sort (swp (lOpen a) 0 t)) (by rw [ok_sort]; exact z2'))
          have hzu : size (swp (lOpen a) 0 t) ≤ 60 := by omega
          have HSW : Hid (∀ (F : Nat → Prop) (v : Value) (W : World), RepSF F W (ofTerm t) v → Calls Tryz.prog 68 #[v, .string ⟨#[]⟩, .int .i64 0, .string ⟨a.toArray⟩, .int .i64 0] W (TreePost F W (ofTerm (swp (lOpen a) 0 t)))) := fun F v W hr => hSW.out F t v 0 W (by omega) (by omega) HO.out hr
          have HV : Hid (∀ W, Calls Tryz.prog 17 #[.string ⟨(text (sort (swp (lOpen a) 0 t))).toArray⟩] W fun e w' => e = .returned (.bool true) ∧ Below W.heap.size W w') := by
            intro W
            have h := specTermValid hBag ⟨(text (sort (swp (lOpen a) 0 t))).toArray⟩ (by simp [ByteArray.size, maxLen]; omega) W
            simp only [htv] at h
            exact h
          clear h3 h4 z1 z2 z2' hSW htv hcl hca
          generalize swp (lOpen a) 0 t = tu at *
          have hts : (textT (ofTerm (sort tu))).length ≤ 1000000 := by unfold text at z3 z4; omega
          have hl4 : (text tu).length ≤ 10000 := by omega
          clear z3 z4
          go_wp2_with (first
            | (go_at_call 72; refine HH.out.mono ?_; rintro e w3 ⟨rfl, hb3⟩; have HB3 := Lib.hid hb3; have HBB3 := Lib.hid (HBW.out.trans (hb3.mono HBW.out.size)); have HBX3 := Lib.hid (HBOX.out.below hb3 HBOX.out.lt); have p0 := (blk_cells HBX3.out).1; have p1 := (blk_cells HBX3.out).2.1; clear hb3)
            | (go_at_call 66; refine (HA.out _).mono ?_; rintro e w' ⟨rfl, rfl⟩)
            | (go_at_call 79; refine (HD.out w3 HBB3.out).mono ?_; rintro e w4 ⟨rfl, hb4⟩; have HB4 := Lib.hid (HB2.out.trans (HB3.out.mono HB2.out.size) |>.trans (hb4.mono (HB2.out.trans (HB3.out.mono HB2.out.size)).size)); have HBB4 := Lib.hid (HBB3.out.trans (hb4.mono HBB3.out.size)); have HBX4 := Lib.hid (HBX3.out.below hb4 HBX3.out.lt); have q0 := (blk_cells HBX4.out).1; have q1 := (blk_cells HBX4.out).2.1; have d2 := (below_keeps HBB4.out) _ _ C2.out; have d3 := (below_keeps HBB4.out) _ _ C3.out; clear hb4))
          refine (HSW.out _ _ w4 (HRT.out w4 HBB4.out)).mono ?_
          rintro e w5 ⟨hb5, v5, rfl, hr5⟩
          obtain ⟨u5, A5, n5, c5, rfl⟩ := repS_shape (RepSF.rep _ _ hr5)
          have HB5 := Lib.hid (HB4.out.trans (hb5.mono HB4.out.size))
          have HR5 := Lib.hid hr5
          clear hb5 hr5
          go_wp2_with fail
          refine (l1Sort_any hBag 60 _ 0 tu _ w5 hzu HZ2.out hl4 HR5.out).mono ?_
          rintro e w6 ⟨hb6, v6, rfl, hr6⟩
          obtain ⟨u6, A6, n6, c6, rfl⟩ := repS_shape (RepSF.rep _ _ hr6)
          have HB6 := Lib.hid (HB5.out.trans (hb6.mono HB5.out.size))
          have HR6 := Lib.hid (RepSF.rep _ _ hr6)
          clear hb6 hr6
          go_wp2_with fail
          refine (l1Text_any _ (ofTerm (sort tu)) _ _ (Nat.le_refl _) HR6.out HWF.out hts).mono ?_
          rintro e w7 ⟨rfl, hb7⟩
          have HB7 := Lib.hid (HB6.out.trans (hb7.mono HB6.out.size))
          clear hb7
          rw [show st (textT (ofTerm (sort tu))) = .string ⟨(text (sort tu)).toArray⟩ from rfl]
          go_wp2_with (go_at_call 17; refine (HV.out _).mono ?_; rintro e w8 ⟨rfl, hb8⟩; have HB8 := Lib.hid hb8; clear hb8)
          go_ret2
          exact ⟨by rw [HX.out]; rfl, HB7.out.trans (HB8.out.mono HB7.out.size)⟩
        · have HX : Hid (x = ([], false)) := by show _ = _; rw [HT.out]; simp [h3, h4]
          have hpos : 1 ≤ (names t).count a := by omega
          generalize (names t).count a = cn at HD hcl hpos
          clear h3 h4 hca
          go_wp2_with (first
            | (go_at_call 72; refine HH.out.mono ?_; rintro e w3 ⟨rfl, hb3⟩; have HB3 := Lib.hid hb3; have HBB3 := Lib.hid (HBW.out.trans (hb3.mono HBW.out.size)); have HBX3 := Lib.hid (HBOX.out.below hb3 HBOX.out.lt); have p0 := (blk_cells HBX3.out).1; have p1 := (blk_cells HBX3.out).2.1; clear hb3)
            | (go_at_call 66; refine (HA.out _).mono ?_; rintro e w' ⟨rfl, rfl⟩)
            | (go_at_call 79; refine (HD.out w3 HBB3.out).mono ?_; rintro e w4 ⟨rfl, hb4⟩; have HB4 := Lib.hid hb4; clear hb4))
          go_ret2
          exact ⟨by rw [HX.out]; rfl, (HB2.out.trans (HB3.out.mono HB2.out.size)).trans (HB4.out.mono (HB2.out.trans (HB3.out.mono HB2.out.size)).size)⟩
    · obtain ⟨u, A, n, c, rfl⟩ := repS_shape (RepSF.rep _ _ hr)
      have hs2 := hb2.size
      have HB2 := Lib.hid (hb2.alloc hs2 (.cells #[.string ⟨u.toArray⟩, .slice A n c] 55))
      have hR := RepSF.move (G := fun _ => True) (w' := w2.alloc (.cells #[.string ⟨u.toArray⟩, .slice A n c] 55)) (fun k _ hk => Below.heap_alloc w2 _ k hk) (fun _ _ _ => trivial) _ _ hr
      have hhd : headT (ofTerm T) ≠ sLam := by
        cases T with
        | lam u => exact absurd rfl hk
        | nm s => simp [ofTerm, headT, sLam]
        | ix n => simp [ofTerm, headT, sLam]
        | app t b => simp [ofTerm, headT, sLam, sApp]
      have HX : Hid (x = ([], false)) := open_res a _ x HT.out T rfl hhd
      have HH := Lib.hid (l1Head_any (ofTerm T) _ _ (RepSF.rep _ _ hR))
      rw [st_eq] at HH
      have hq1 : ((⟨(headT (ofTerm T)).toArray⟩ : ByteArray).toList == [108, 97, 109]) = false := by rw [ByteArray.toList_eq]; simpa [sLam] using hhd
      have hq2 : ((⟨(headT (ofTerm T)).toArray⟩ : ByteArray).toList != [108, 97, 109]) = true := by rw [ByteArray.toList_eq]; simpa [sLam] using hhd
      generalize (⟨(headT (ofTerm T)).toArray⟩ : ByteArray) = hd at HH hq1 hq2
      clear hb2 hr hR hhd hk o1
      go_wp2_with (go_at_call 72; refine HH.out.mono ?_; rintro e w3 ⟨rfl, hb3⟩; have HB3 := Lib.hid hb3; clear hb3)
      go_ret2
      exact ⟨by rw [HX.out]; rfl, HB2.out.trans (HB3.out.mono HB2.out.size)⟩

end Go.Proofs.YtomaknmemhpghaaGreatDoor
