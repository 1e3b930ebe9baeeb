/- The model's TermKids. What both sides of TermKids give to the law. -/
import Derived.Test.YtomaknmemhpghaaGreatDoorKdB
import Derived.Test.YtomaknmemhpghaaGreatDoorOpB
/-! The model's TermKids. -/
namespace Go.Proofs.YtomaknmemhpghaaGreatDoor
open Go.RowKit Rt Go.Lib

set_option maxHeartbeats 1600000 in
set_option maxRecDepth 100000 in
theorem specTermKids (hBag : BagSaid) (s : ByteArray) (hs : s.size ≤ maxLen) (w : World) :
    Calls Tryz.prog 41 #[.string s] w (KidsPost w (kidsRes s.data.toList)) := by
  obtain ⟨i0, hi0, hz0, hz1, hz2⟩ := info_parts text_info
  have HC := Lib.hid (l1Term_any hBag s hs w)
  have HT : Hid (kidsRes s.data.toList = match termOf s.data.toList with | some (.lam t) => ([⟨#[108, 97, 109]⟩, tb (sort (swp (lOpen sK0) 0 t))], true) | some (.app t b) => (⟨#[97, 112, 112]⟩ :: tb t :: b.map tb, true) | some _ => ([], true) | none => ([], false)) := rfl
  have HOK : Hid (∀ t, termOf s.data.toList = some t → ok 0 t = true ∧ size t ≤ 60) := fun t h => termOf_ok _ t h
  generalize kidsRes s.data.toList = x at HT ⊢
  generalize termOf s.data.toList = r at HC HT HOK
  go_enter Tryz.func41, Tryz.ntmps41
  go_wp2_with fail
  refine HC.out.mono ?_
  intro e w2 hp
  cases r with
  | none =>
    obtain ⟨hb2, u, A, n, c, rfl⟩ := hp
    have hs2 := hb2.size
    have HB2 := Lib.hid hb2
    clear hb2
    go_wp2_with fail
    go_ret2
    exact KidsPost.mk [] HT.out rfl ((HB2.out.alloc hs2 _).alloc (by simp; omega) _) (B := w.heap.size) (Nat.le_refl _) (own_new _ 9 #[] 0 1 w.heap.size (by simp; omega) rfl (by decide)) (by simp)
  | some T =>
    obtain ⟨hb2, v, rfl, hr⟩ := hp
    obtain ⟨o1, o2⟩ := HOK.out T rfl
    have hs2 := hb2.size
    cases T with
    | lam t =>
      obtain ⟨bb, cc, y0, x1, y1, rfl, h1, h2, -, -, c2, c3, ht⟩ := repSF_lam hr
      have hbx : Blk ((w2.alloc (.cells #[.string ⟨#[]⟩, .slice (some ⟨bb, 0, none⟩) 2 cc] 55)).alloc (.cells #[] 9)) w2.heap.size 55 #[.string ⟨#[]⟩, .slice (some ⟨bb, 0, none⟩) 2 cc] := (Blk.new w2 _ _).alloc _
      have hbw : Below w2.heap.size w2 ((w2.alloc (.cells #[.string ⟨#[]⟩, .slice (some ⟨bb, 0, none⟩) 2 cc] 55)).alloc (.cells #[] 9)) := by go_grown
      have how : ((w2.alloc (.cells #[.string ⟨#[]⟩, .slice (some ⟨bb, 0, none⟩) 2 cc] 55)).alloc (.cells #[] 9)).ownsRow w.heap.size 9 1 (.slice (some ⟨w2.heap.size + 1, 0, none⟩) 0 0) 0 [] := by
        have h := own_new (w2.alloc (.cells #[.string ⟨#[]⟩, .slice (some ⟨bb, 0, none⟩) 2 cc] 55)) 9 #[] 0 1 w.heap.size (by simp; omega) rfl (by decide)
        simpa using h
      have HRT : Hid (∀ W, Below w2.heap.size w2 W → RepSF (fun _ => True) W (ofTerm t) (.agg #[x1, y1])) := fun W hW => RepSF.move (fun k _ hk => hW.block k hk) (fun _ _ _ => trivial) _ _ ht
      have HRL : Hid (∀ W, Below w2.heap.size w2 W → RepS W (ofTerm (.lam t)) (.agg #[.string ⟨#[]⟩, .slice (some ⟨bb, 0, none⟩) 2 cc])) := fun W hW => RepSF.rep _ _ (RepSF.move (G := fun _ => True) (fun k _ hk => hW.block k hk) (fun _ _ _ => trivial) _ _ hr)
      have C2 := Lib.hid c2
      have C3 := Lib.hid c3
      have HB2 := Lib.hid hb2
      have HBX := Lib.hid hbx
      have HBW := Lib.hid hbw
      have HOW := Lib.hid how
      have o1' : ok 1 t = true := by rw [ok] at o1; exact o1
      have o3 : size t ≤ 59 := by rw [Rt.size] at o2; omega
      obtain ⟨z1, z2⟩ := swp_ok (lOpen sK0) 1 0 (lOpen_ok sK0 k0_name) t 0 (by omega) o1'
      have z2' : ok 0 (swp (lOpen sK0) 0 t) = true := z2
      have z3 := text_size _ _ z2'
      have z4 := text_sort_len (swp (lOpen sK0) 0 t)
      have HZ2 := Lib.hid z2'
      have HWF := Lib.hid (wf_ofTerm 0 (sort (swp (lOpen sK0) 0 t)) (by rw [ok_sort]; exact z2'))
      have hzu : size (swp (lOpen sK0) 0 t) ≤ 60 := by omega
      have hSW := Lib.hid (l1Swap_any ⟨#[]⟩ ⟨sK0.toArray⟩ 0 (lOpen sK0) 1 (atomSaid_open sK0 k0_name) 60)
      have HSW : Hid (∀ (F : Nat → Prop) (v : Value) (W : World), RepSF F W (ofTerm t) v → Calls Tryz.prog 68 #[v, .string ⟨#[]⟩, .int .i64 0, .string ⟨#[107, 48]⟩, .int .i64 0] W (TreePost F W (ofTerm (swp (lOpen sK0) 0 t)))) := fun F v W hr => hSW.out F t v 0 W (by omega) (by omega) o1' hr
      have HX : Hid (x = ([⟨#[108, 97, 109]⟩, tb (sort (swp (lOpen sK0) 0 t))], true)) := HT.out
      clear hb2 hr ht c2 c3 hbx hbw how z1 z2 z2' hSW o1 o1'
      generalize swp (lOpen sK0) 0 t = tu at *
      have hts : (textT (ofTerm (sort tu))).length ≤ 1000000 := by unfold text at z3 z4; omega
      have hl4 : (text tu).length ≤ 10000 := by omega
      clear z3 z4
      rw [show st [] = Value.string ⟨#[]⟩ from rfl]
      go_wp2_with fail
      generalize (w2.alloc (.cells #[.string ⟨#[]⟩, .slice (some ⟨bb, 0, none⟩) 2 cc] 55)).alloc (.cells #[] 9) = W0 at *
      refine (l1Head_any (ofTerm (.lam t)) _ _ (HRL.out _ HBW.out)).mono ?_
      rintro e w3 ⟨rfl, hb3⟩
      rw [st_eq, show headT (ofTerm (.lam t)) = sLam from rfl, show (⟨sLam.toArray⟩ : ByteArray) = ⟨#[108, 97, 109]⟩ from rfl]
      have HB3 := Lib.hid hb3
      have HBW3 := Lib.hid (HBW.out.trans (hb3.mono HBW.out.size))
      have p0 := (blk_cells (HBX.out.below hb3 HBX.out.lt)).1
      have p1 := (blk_cells (HBX.out.below hb3 HBX.out.lt)).2.1
      have d2 := (below_keeps HBW3.out) _ _ C2.out
      have d3 := (below_keeps HBW3.out) _ _ C3.out
      have HO3 := Lib.hid (own_go HOW.out hb3)
      clear hb3
      go_wp2_with fail
      refine (HSW.out _ _ w3 (HRT.out w3 HBW3.out)).mono ?_
      rintro e w5 ⟨hb5, v5, rfl, hr5⟩
      obtain ⟨u5, A5, n5, c5, rfl⟩ := repS_shape (RepSF.rep _ _ hr5)
      have HB5 := Lib.hid (HBW3.out.trans (hb5.mono HBW3.out.size))
      have HR5 := Lib.hid hr5
      have HO5 := Lib.hid (own_go HO3.out hb5)
      clear hb5 hr5
      go_wp2_with fail
      refine (l1Sort_any hBag 60 _ 0 tu _ w5 hzu HZ2.out hl4 HR5.out).mono ?_
      rintro e w6 ⟨hb6, v6, rfl, hr6⟩
      obtain ⟨u6, A6, n6, c6, rfl⟩ := repS_shape (RepSF.rep _ _ hr6)
      have HB6 := Lib.hid (HB5.out.trans (hb6.mono HB5.out.size))
      have HR6 := Lib.hid (RepSF.rep _ _ hr6)
      have HO6 := Lib.hid (own_go HO5.out hb6)
      clear hb6 hr6
      go_wp2_with fail
      refine (l1Text_any _ (ofTerm (sort tu)) _ _ (Nat.le_refl _) HR6.out HWF.out hts).mono ?_
      rintro e w7 ⟨rfl, hb7⟩
      have HB7 := Lib.hid (HB2.out.trans ((HB6.out.trans (hb7.mono HB6.out.size)).mono HB2.out.size))
      have HO7 := Lib.hid (own_go HO6.out hb7)
      clear hb7
      have hs7 := HB7.out.size
      have HX7 : Hid (x = ([⟨#[108, 97, 109]⟩, ⟨(textT (ofTerm (sort tu))).toArray⟩], true)) := HX.out
      rw [st_eq]
      generalize (⟨(textT (ofTerm (sort tu))).toArray⟩ : ByteArray) = tt at HX7 ⊢
      go_wp2_with (at_builtin; refine wpList_append_own_at _ rfl _ _ 29 rfl w.heap.size 9 i0 (.string ⟨#[]⟩) 1 16 Tryz.underlying29 hi0 hz0 hz1 hz2 rfl (Nat.succ_pos 0) (.slice (some ⟨w2.heap.size + 1, 0, none⟩) 0 0) 0 [] rfl (HO7.out.alloc _) ⟨w7.heap.size, 0, none⟩ 2 2 [.string ⟨#[108, 97, 109]⟩, .string tt] rfl rfl (cell_two_new _ _ _ _) ?_ ?_ ?_ ?_ ?_)
      · intro u' hu'
        simp at hu'
        rcases hu' with rfl | rfl <;> rfl
      · unfold maxLen; omega
      · omega
      · simp; omega
      · intro v' w8 hown8 hgrow8 _ hat8
        obtain ⟨A8, c8, rfl⟩ := own_shape hown8
        have HB8 := Lib.hid (Below.grown (HB7.out.alloc HB7.out.size (.cells #[.string ⟨#[108, 97, 109]⟩, .string tt] 9)) hgrow8 (by simp; omega) (fun k hk => by simp [Value.ownBlock] at hk; omega))
        have HO8 := Lib.hid hown8
        clear hown8 hgrow8 hat8
        go_wp2_with fail
        go_ret2
        exact KidsPost.mk [⟨#[108, 97, 109]⟩, tt] HX7.out rfl HB8.out (Nat.le_refl _) HO8.out rfl
    | app t l =>
      obtain ⟨bb, cc, y0, x1, y1, gb, db, ys, rfl, h1, h2, -, -, c2, c3, ht, c4, c5, h3, h4, hc, hf⟩ := repSF_app hr
      have hbx : Blk ((w2.alloc (.cells #[.string ⟨#[]⟩, .slice (some ⟨bb, 0, none⟩) 3 cc] 55)).alloc (.cells #[] 9)) w2.heap.size 55 #[.string ⟨#[]⟩, .slice (some ⟨bb, 0, none⟩) 3 cc] := (Blk.new w2 _ _).alloc _
      have hbw : Below w2.heap.size w2 ((w2.alloc (.cells #[.string ⟨#[]⟩, .slice (some ⟨bb, 0, none⟩) 3 cc] 55)).alloc (.cells #[] 9)) := by go_grown
      have how : ((w2.alloc (.cells #[.string ⟨#[]⟩, .slice (some ⟨bb, 0, none⟩) 3 cc] 55)).alloc (.cells #[] 9)).ownsRow w2.heap.size 9 1 (.slice (some ⟨w2.heap.size + 1, 0, none⟩) 0 0) 0 [] := by
        have h := own_new (w2.alloc (.cells #[.string ⟨#[]⟩, .slice (some ⟨bb, 0, none⟩) 3 cc] 55)) 9 #[] 0 1 w2.heap.size (by simp) rfl (by decide)
        simpa using h
      have HRT : Hid (∀ W, Below w2.heap.size w2 W → RepS W (ofTerm t) (.agg #[x1, y1])) := fun W hW => RepSF.rep _ _ (RepSF.move (G := fun _ => True) (fun k _ hk => hW.block k hk) (fun _ _ _ => trivial) _ _ ht)
      have HRL : Hid (∀ W, Below w2.heap.size w2 W → RepS W (ofTerm (.app t l)) (.agg #[.string ⟨#[]⟩, .slice (some ⟨bb, 0, none⟩) 3 cc])) := fun W hW => RepSF.rep _ _ (RepSF.move (G := fun _ => True) (fun k _ hk => hW.block k hk) (fun _ _ _ => trivial) _ _ hr)
      have HL2 : Hid (∀ (W : World) (j : Nat) (u : Term), Below w2.heap.size w2 W → l[j]? = some u → ∃ x y, W.cell? ⟨gb, (j + 1) * 2, none⟩ = some x ∧ W.cell? ⟨gb, (j + 1) * 2 + 1, none⟩ = some y ∧ RepS W (ofTerm u) (.agg #[x, y])) := by
        intro W j u hW hu
        obtain ⟨x, y, e1, e2, hrt⟩ := RepFF.at _ ys (j + 1) (ofTerm u) hf (by rw [List.getElem?_cons_succ]; exact ofTerms_at l j u hu)
        exact ⟨x, y, (below_keeps hW) _ _ (hc ((j + 1) * 2) x e1), (below_keeps hW) _ _ (hc ((j + 1) * 2 + 1) y e2), RepSF.rep _ _ (RepSF.move (G := fun _ => True) (fun k _ hk => hW.block k hk) (fun _ _ _ => trivial) _ _ hrt)⟩
      have C2 := Lib.hid c2
      have C3 := Lib.hid c3
      have C4 := Lib.hid c4
      have C5 := Lib.hid c5
      have HB2 := Lib.hid hb2
      have HBX := Lib.hid hbx
      have HBW := Lib.hid hbw
      have HOW := Lib.hid how
      have HO1 := Lib.hid o1
      have hll : l.length ≤ 60 := by have := bag_short l; rw [Rt.size] at o2; omega
      have ok1 : ok 0 t = true := by have h := HO1.out; rw [ok] at h; simp only [Bool.and_eq_true] at h; exact h.1
      have ok2 : oks 0 l = true := by have h := HO1.out; rw [ok] at h; simp only [Bool.and_eq_true] at h; exact h.2
      have z3 := text_size _ _ ok1
      have o3 : size t ≤ 60 := by rw [Rt.size] at o2; omega
      have hts : (textT (ofTerm t)).length ≤ 1000000 := by unfold text at z3; omega
      have HWF := Lib.hid (wf_ofTerm 0 t ok1)
      have HU : Hid (∀ (j : Nat) (u : Term), l[j]? = some u → wfT (ofTerm u) = true ∧ (textT (ofTerm u)).length ≤ 1000000) := by
        intro j u hu
        have hk := (oks_mem 0 l).1 ok2 u (List.mem_of_getElem? hu)
        have h7 := sizes_le l (j + 1)
        rw [sizes_take l j u hu] at h7
        have h8 := text_size _ _ hk
        rw [Rt.size] at o2
        exact ⟨wf_ofTerm 0 u hk, by unfold text at h8; omega⟩
      obtain ⟨K, hK⟩ : ∃ K, K = ((⟨#[97, 112, 112]⟩ : ByteArray) :: tb t :: l.map tb) := ⟨_, rfl⟩
      have HX : Hid (x = (K, true)) := by show _ = _; rw [hK]; exact HT.out
      have HK0 : Hid (strv (K.take 2) = [.string ⟨#[97, 112, 112]⟩, .string (tb t)]) := by show _ = _; rw [hK]; rfl
      have HKL : Hid (K.length = 2 + l.length) := by show _ = _; rw [hK]; simp; omega
      have HKS : Hid (∀ j u, l[j]? = some u → strv (K.take (2 + j)) ++ [.string (tb u)] = strv (K.take (2 + j + 1))) := by
        intro j u hu
        have h7 : K[2 + j]? = some (tb u) := by rw [hK, Nat.add_comm, List.getElem?_cons_succ, List.getElem?_cons_succ, List.getElem?_map, hu]; rfl
        rw [List.take_add_one, h7]
        simp [strv]
      have HKE : Hid (strv (K.take (2 + l.length)) = strv K) := by show _ = _; rw [← HKL.out, List.take_length]
      clear hK
      clear hb2 hr ht c2 c3 c4 c5 hc hf hbx hbw how o1 ok1 ok2 z3
      rw [show st [] = Value.string ⟨#[]⟩ from rfl]
      go_wp2_with fail
      generalize (w2.alloc (.cells #[.string ⟨#[]⟩, .slice (some ⟨bb, 0, none⟩) 3 cc] 55)).alloc (.cells #[] 9) = W0 at *
      refine (l1Head_any (ofTerm (.app t l)) _ _ (HRL.out _ HBW.out)).mono ?_
      rintro e w3 ⟨rfl, hb3⟩
      rw [st_eq, show headT (ofTerm (.app t l)) = sApp from rfl, show (⟨sApp.toArray⟩ : ByteArray) = ⟨#[97, 112, 112]⟩ from rfl]
      have HB3 := Lib.hid hb3
      have HBW3 := Lib.hid (HBW.out.trans (hb3.mono HBW.out.size))
      have HBX3 := Lib.hid (HBX.out.below hb3 HBX.out.lt)
      have p0 := (blk_cells HBX3.out).1
      have p1 := (blk_cells HBX3.out).2.1
      have d2 := (below_keeps HBW3.out) _ _ C2.out
      have d3 := (below_keeps HBW3.out) _ _ C3.out
      have HO3 := Lib.hid (own_go HOW.out hb3)
      clear hb3
      go_wp2_with fail
      refine (l1Text_any _ (ofTerm t) _ _ (Nat.le_refl _) (HRT.out _ HBW3.out) HWF.out hts).mono ?_
      rintro e w7 ⟨rfl, hb7⟩
      have HB7 := Lib.hid (HBW3.out.trans (hb7.mono HBW3.out.size))
      have HBX7 := Lib.hid (HBX3.out.below hb7 HBX3.out.lt)
      have HO7 := Lib.hid (own_go HO3.out hb7)
      clear hb7
      have hs7 : w2.heap.size + 1 ≤ w7.heap.size := HBX7.out.lt
      rw [st_eq, show (⟨(textT (ofTerm t)).toArray⟩ : ByteArray) = tb t from rfl]
      go_wp2_with (at_builtin; refine wpList_append_own_at _ rfl _ _ 29 rfl w2.heap.size 9 i0 (.string ⟨#[]⟩) 1 16 Tryz.underlying29 hi0 hz0 hz1 hz2 rfl (Nat.succ_pos 0) (.slice (some ⟨w2.heap.size + 1, 0, none⟩) 0 0) 0 [] rfl (HO7.out.alloc _) ⟨w7.heap.size, 0, none⟩ 2 2 [.string ⟨#[97, 112, 112]⟩, .string (tb t)] rfl rfl (cell_two_new _ _ _ _) ?_ ?_ ?_ ?_ ?_)
      · intro u' hu'
        simp at hu'
        rcases hu' with rfl | rfl <;> rfl
      · unfold maxLen; omega
      · omega
      · simp; omega
      · intro v' w8 hown8 hgrow8 _ hat8
        obtain ⟨A8, c8, rfl⟩ := own_shape hown8
        have HB8 := Lib.hid (Below.grown (HB7.out.alloc HB7.out.size (.cells #[.string ⟨#[97, 112, 112]⟩, .string (tb t)] 9)) hgrow8 (by simp; omega) (fun k hk => by simp [Value.ownBlock] at hk; omega))
        have hbx8 := (HBX7.out.alloc (.cells #[.string ⟨#[97, 112, 112]⟩, .string (tb t)] 9)).grown hgrow8 (by simp [Value.ownBlock])
        have q1 := (blk_cells hbx8).2.1
        have d4 := (below_keeps HB8.out) _ _ C4.out
        have d5 := (below_keeps HB8.out) _ _ C5.out
        have HO8 := Lib.hid hown8
        clear hown8 hgrow8 hat8 hbx8
        go_wp2_with fail
        go_loopw [6, 8] (fun sv iv wr => ∃ (j : Nat) (g c : Nat), j ≤ l.length ∧ iv = .int .i64 (((j : Nat) : Int) + 1) ∧ sv = .slice (some ⟨g, 0, none⟩) (2 + j) c ∧ Hid (wr.ownsRow w2.heap.size 9 1 (.slice (some ⟨g, 0, none⟩) (2 + j) c) (2 + j) (strv (K.take (2 + j)))) ∧ Hid (Below w2.heap.size w2 wr)) (fun _ iv _ => l.length + 1 - (intOf iv).toNat)
        case atStart =>
          obtain ⟨g8, rfl, -⟩ := own_cells HO8.out (by omega)
          exact ⟨0, g8, c8, Nat.zero_le _, rfl, rfl, by show World.ownsRow _ _ _ _ _ _ _; rw [HK0.out]; exact HO8.out, HB8.out⟩
        case round =>
          obtain ⟨j, g9, c9, hj, rfl, rfl, hown, hbel⟩ := hrel
          by_cases hlt : j < l.length
          · obtain ⟨u, hu⟩ : ∃ u, l[j]? = some u := ⟨_, List.getElem?_eq_getElem hlt⟩
            obtain ⟨xx, yy, e1, e2, hrt⟩ := HL2.out wr j u hbel.out hu
            obtain ⟨k1, k2⟩ := HU.out j u hu
            have HRU := Lib.hid hrt
            have HK1 := Lib.hid k1
            have HKU := Lib.hid (HKS.out j u hu)
            clear hrt k1 hu
            go_wp2_with fail
            refine (l1Text_any _ (ofTerm u) _ _ (Nat.le_refl _) HRU.out HK1.out k2).mono ?_
            rintro e w10 ⟨rfl, hb10⟩
            have HB10 := Lib.hid (hbel.out.trans (hb10.mono hbel.out.size))
            have HO10 := Lib.hid (own_go hown.out hb10)
            clear hb10 e1 e2
            have hs10 := HB10.out.size
            rw [st_eq, show (⟨(textT (ofTerm u)).toArray⟩ : ByteArray) = tb u from rfl]
            generalize tb u = uu at HKU ⊢
            go_wp2_with (at_builtin; refine wpList_append_own_at _ rfl _ _ 29 rfl w2.heap.size 9 i0 (.string ⟨#[]⟩) 1 16 Tryz.underlying29 hi0 hz0 hz1 hz2 rfl (Nat.succ_pos 0) (.slice (some ⟨g9, 0, none⟩) (2 + j) c9) (2 + j) (strv (K.take (2 + j))) rfl (HO10.out.alloc _) ⟨w10.heap.size, 0, none⟩ 1 1 [.string uu] rfl rfl (cell_one_new _ _ _) ?_ ?_ ?_ ?_ ?_)
            · intro u' hu'
              simp at hu'; subst hu'; rfl
            · unfold maxLen; omega
            · omega
            · simp; omega
            · intro v' w11 hown11 hgrow11 _ hat11
              obtain ⟨A11, c11, rfl⟩ := own_shape hown11
              obtain ⟨g11, rfl, -⟩ := own_cells hown11 (Nat.succ_pos _)
              rw [HKU.out] at hown11
              have HB11 := Lib.hid (Below.grown (HB10.out.alloc HB10.out.size (.cells #[.string uu] 9)) hgrow11 (by simp; omega) (fun k hk => (own_block_lt HO10.out k hk).1))
              have HO11 := Lib.hid hown11
              clear hown11 hgrow11 hat11
              go_wp2_with fail
              go_roundw
              case rel => exact ⟨j + 1, g11, c11, hlt, by go_num, rfl, HO11.out, HB11.out⟩
              case measure => simp [intOf]; omega
          · obtain rfl : j = l.length := by omega
            have HF := hown.out
            rw [HKE.out] at HF
            have HF2 := Lib.hid HF
            clear HF
            go_wp2_with fail
            go_ret2
            exact KidsPost.mk K HX.out HKL.out (HB2.out.trans (hbel.out.mono hs2)) hs2 HF2.out rfl
    | nm a =>
      rw [ofTerm, RepSF] at hr
      subst hr
      have HB2 := Lib.hid hb2
      have HH : ∀ W : World, RepS W (.atom a) (.agg #[st a, .slice none 0 0]) := fun W => by rw [RepS]
      rw [st_eq] at HH ⊢
      have how : ((w2.alloc (.cells #[.string ⟨(a).toArray⟩, .slice none 0 0] 55)).alloc (.cells #[] 9)).ownsRow w.heap.size 9 1 (.slice (some ⟨w2.heap.size + 1, 0, none⟩) 0 0) 0 [] := by
        have h := own_new (w2.alloc (.cells #[.string ⟨(a).toArray⟩, .slice none 0 0] 55)) 9 #[] 0 1 w.heap.size (by simp; omega) rfl (by decide)
        simpa using h
      have hbw : Below w.heap.size w ((w2.alloc (.cells #[.string ⟨(a).toArray⟩, .slice none 0 0] 55)).alloc (.cells #[] 9)) := (hb2.alloc hs2 _).alloc (by simp; omega) _
      have HOW := Lib.hid how
      have HBW := Lib.hid hbw
      have hWs : w.heap.size ≤ ((w2.alloc (.cells #[.string ⟨(a).toArray⟩, .slice none 0 0] 55)).alloc (.cells #[] 9)).heap.size := hbw.size
      clear hb2 how hbw
      go_wp2_with fail
      generalize (w2.alloc (.cells #[.string ⟨(a).toArray⟩, .slice none 0 0] 55)).alloc (.cells #[] 9) = W0 at *
      refine (l1Head_any (.atom a) _ _ (HH _)).mono ?_
      rintro e w3 ⟨rfl, hb3⟩
      rw [st_eq, show headT (.atom a) = [] from rfl]
      have HB3 := Lib.hid (HBW.out.trans (hb3.mono hWs))
      have HO3 := Lib.hid (own_go HOW.out hb3)
      clear hb3
      go_wp2_with fail
      go_ret2
      exact KidsPost.mk [] HT.out rfl HB3.out (Nat.le_refl _) HO3.out rfl
    | ix i =>
      rw [ofTerm, RepSF] at hr
      subst hr
      have HB2 := Lib.hid hb2
      have HH : ∀ W : World, RepS W (.atom (dec i)) (.agg #[st (dec i), .slice none 0 0]) := fun W => by rw [RepS]
      rw [st_eq] at HH ⊢
      have how : ((w2.alloc (.cells #[.string ⟨(dec i).toArray⟩, .slice none 0 0] 55)).alloc (.cells #[] 9)).ownsRow w.heap.size 9 1 (.slice (some ⟨w2.heap.size + 1, 0, none⟩) 0 0) 0 [] := by
        have h := own_new (w2.alloc (.cells #[.string ⟨(dec i).toArray⟩, .slice none 0 0] 55)) 9 #[] 0 1 w.heap.size (by simp; omega) rfl (by decide)
        simpa using h
      have hbw : Below w.heap.size w ((w2.alloc (.cells #[.string ⟨(dec i).toArray⟩, .slice none 0 0] 55)).alloc (.cells #[] 9)) := (hb2.alloc hs2 _).alloc (by simp; omega) _
      have HOW := Lib.hid how
      have HBW := Lib.hid hbw
      have hWs : w.heap.size ≤ ((w2.alloc (.cells #[.string ⟨(dec i).toArray⟩, .slice none 0 0] 55)).alloc (.cells #[] 9)).heap.size := hbw.size
      clear hb2 how hbw
      go_wp2_with fail
      generalize (w2.alloc (.cells #[.string ⟨(dec i).toArray⟩, .slice none 0 0] 55)).alloc (.cells #[] 9) = W0 at *
      refine (l1Head_any (.atom (dec i)) _ _ (HH _)).mono ?_
      rintro e w3 ⟨rfl, hb3⟩
      rw [st_eq, show headT (.atom (dec i)) = [] from rfl]
      have HB3 := Lib.hid (HBW.out.trans (hb3.mono hWs))
      have HO3 := Lib.hid (own_go HOW.out hb3)
      clear hb3
      go_wp2_with fail
      go_ret2
      exact KidsPost.mk [] HT.out rfl HB3.out (Nat.le_refl _) HO3.out rfl

end Go.Proofs.YtomaknmemhpghaaGreatDoor

/-! What both sides of TermKids give to the law. -/
namespace Go.Proofs.YtomaknmemhpghaaGreatDoor
open Go.RowKit Rt Go.Lib

theorem Texts.row {w : World} {c B : Nat} {A : Option Addr} {ss : List ByteArray} (h : w.ownsRow B 9 1 (.slice A ss.length c) ss.length (strv ss)) : Texts w A ss := by
  intro j s hs
  obtain ⟨g, rfl, -⟩ := own_cells h (by have := (List.getElem?_eq_some_iff.1 hs).1; omega)
  exact Texts.own h j s hs

theorem Texts.marks {w : World} {c B n k : Nat} {A : Option Addr} (h : w.ownsRow B 9 1 (.slice A n c) n (strv (marks n k))) : Texts w A (marks n k) := by
  have h' : w.ownsRow B 9 1 (.slice A (Go.Proofs.YtomaknmemhpghaaGreatDoor.marks n k).length c) (Go.Proofs.YtomaknmemhpghaaGreatDoor.marks n k).length (strv (Go.Proofs.YtomaknmemhpghaaGreatDoor.marks n k)) := by rw [marks_length]; exact h
  exact Texts.row h'

theorem kidsRes_len (l : B) : (kidsRes l).1.length ≤ 1000000 := by
  unfold kidsRes
  cases h : termOf l with
  | none => simp
  | some T =>
    obtain ⟨h1, h2⟩ := termOf_ok l T h
    cases T with
    | nm a => simp
    | ix i => simp
    | lam t => simp
    | app t b =>
      have := bag_short b
      rw [Rt.size] at h2
      simp
      omega

end Go.Proofs.YtomaknmemhpghaaGreatDoor
