/- The walk of the model's l1Swap. -/
import Derived.Test.YtomaknmemhpghaaGreatDoorSpA
namespace Go.Proofs.YtomaknmemhpghaaGreatDoor
open Go.RowKit Rt

/-- What holds at the head of l1Swap's loop. -/
structure SwRel (F : Nat → Prop) (L : Nat → Term → Term) (K B B2 : Nat) (w2 : World) (l : List Term) (wr : World) (k g d : Nat) (xs : List Value) : Prop where
  le : k ≤ l.length
  own : wr.ownsRow B2 55 2 (.slice (some ⟨g, 0, none⟩) k d) k xs
  kd : k ≤ d
  dm : d ≤ maxLen
  gB : B2 ≤ g
  gS : g < wr.heap.size
  rep : RepFF (fun q => ((F q ∧ q < B) ∨ B2 ≤ q) ∧ q ≠ g) wr (ofTerms (swps L K (l.take k))) xs
  below : Below B2 w2 wr

/-- What l1Swap does at the atoms. -/
structure AtomSaid (sn sb : ByteArray) (idx : Int) (L : Nat → Term → Term) (a : Nat) : Prop where
  nm : ∀ (F : Nat → Prop) (s : B) (k : Nat) (w : World), k < 100 → isName s = true →
    Calls Tryz.prog 68 #[.agg #[st s, .slice none 0 0], .string sn, .int .i64 idx, .string sb, .int .i64 k] w (TreePost F w (ofTerm (L k (.nm s))))
  ix : ∀ (F : Nat → Prop) (i k : Nat) (w : World), k < 100 → i < k + a → i < 100 →
    Calls Tryz.prog 68 #[.agg #[st (dec i), .slice none 0 0], .string sn, .int .i64 idx, .string sb, .int .i64 k] w (TreePost F w (ofTerm (L k (.ix i))))

set_option maxHeartbeats 3200000 in
set_option maxRecDepth 100000 in
theorem l1Swap_any (sn sb : ByteArray) (idx : Int) (L : Nat → Term → Term) (aa : Nat) (hA : AtomSaid sn sb idx L aa) (n : Nat) : ∀ (F : Nat → Prop) (t : Term) (v : Value) (K : Nat) (w : World), size t ≤ n → K + size t ≤ 100 → ok (K + aa) t = true → RepSF F w (ofTerm t) v →
    Calls Tryz.prog 68 #[v, .string sn, .int .i64 idx, .string sb, .int .i64 K] w (TreePost F w (ofTerm (swp L K t))) := by
  induction n with
  | zero => intro F t v K w h; have := size_pos t; omega
  | succ n ih =>
    intro F t v K w hn hkk hok hr
    cases t with
    | nm s =>
      rw [ofTerm, RepSF] at hr
      subst hr
      rw [ok] at hok
      rw [Rt.size] at hkk
      rw [swp]
      exact hA.nm F s K w (by omega) hok
    | ix i =>
      rw [ofTerm, RepSF] at hr
      subst hr
      simp only [ok, decide_eq_true_eq] at hok
      rw [Rt.size] at hkk
      rw [swp]
      exact hA.ix F i K w (by omega) hok.1 hok.2
    | lam t =>
      rw [Rt.size] at hn hkk
      have HR := Lib.hid (RepSF.rep _ _ hr)
      obtain ⟨b, c, y0, x1, y1, rfl, h1, h2, c0, c1, c2, c3, ht⟩ := repSF_lam hr
      have C2 := Lib.hid c2
      have C3 := Lib.hid c3
      have HT := Lib.hid (repSF_below ht)
      have e0 : ofTerm (swp L K (.lam t)) = .list [.atom [108, 97, 109], ofTerm (swp L (K + 1) t)] := by rw [swp]; rfl
      rw [e0]
      clear e0
      have IHL : Hid (∀ (F' : Nat → Prop) (v' : Value) (w' : World), RepSF F' w' (ofTerm t) v' → Calls Tryz.prog 68 #[v', .string sn, .int .i64 idx, .string sb, .int .i64 ((K : Int) + 1)] w' (TreePost F' w' (ofTerm (swp L (K + 1) t)))) := by
        intro F' v' w' hr'
        have h := ih F' t v' (K + 1) w' (by omega) (by omega) (by rw [ok] at hok; rw [show K + 1 + aa = K + aa + 1 by omega]; exact hok) hr'
        have e1 : (((K + 1 : Nat)) : Int) = (K : Int) + 1 := by omega
        rw [e1] at h
        exact h
      generalize swp L (K + 1) t = t' at IHL ⊢
      clear c0 c1 c2 c3 ht hr ih hok
      unfold maxLen at h2
      rw [st_eq] at HR ⊢
      go_enter Tryz.func68, Tryz.ntmps68
      go_wp2_with fail
      have hret : Blk ((w.alloc (.cells #[.string ⟨#[]⟩, .slice (some ⟨b, 0, none⟩) 2 c] 55)).alloc (.cells #[.string ⟨#[]⟩, .slice none 0 0] 55)) (w.heap.size + 1) 55 #[.string ⟨#[]⟩, .slice none 0 0] := by
        have := Blk.new (w.alloc (.cells #[.string ⟨#[]⟩, .slice (some ⟨b, 0, none⟩) 2 c] 55)) 55 #[.string ⟨#[]⟩, .slice none 0 0]
        simpa using this
      have hbox : Blk ((w.alloc (.cells #[.string ⟨#[]⟩, .slice (some ⟨b, 0, none⟩) 2 c] 55)).alloc (.cells #[.string ⟨#[]⟩, .slice none 0 0] 55)) w.heap.size 55 #[.string ⟨#[]⟩, .slice (some ⟨b, 0, none⟩) 2 c] := (Blk.new _ _ _).alloc _
      have hW := below_two w (.cells #[.string ⟨#[]⟩, .slice (some ⟨b, 0, none⟩) 2 c] 55) (.cells #[.string ⟨#[]⟩, .slice none 0 0] 55)
      generalize (w.alloc (.cells #[.string ⟨#[]⟩, .slice (some ⟨b, 0, none⟩) 2 c] 55)).alloc (.cells #[.string ⟨#[]⟩, .slice none 0 0] 55) = W at *
      have hKW := below_keeps hW
      refine (l1Head_any _ _ _ (HR.out.keep hKW)).mono ?_
      rintro e w2 ⟨rfl, hb2⟩
      rw [st_eq, show headT (ofTerm (.lam t)) = [108, 97, 109] from rfl]
      have hK2 := hKW.trans (below_keeps hb2)
      have hbox2 := hbox.below hb2 hbox.lt
      have hret2 := hret.below hb2 hret.lt
      have hsz : w.heap.size + 2 ≤ w2.heap.size := hret2.lt
      have hbb := hW.trans (hb2.mono hW.size)
      obtain ⟨p0, p1, _, _⟩ := blk_cells hbox2
      have c2 := hK2 _ _ C2.out
      have c3 := hK2 _ _ C3.out
      clear hret hbox hW hb2
      go_wp2_with fail
      refine (IHL.out (fun k => F k ∧ k < w.heap.size) _ w2 (RepSF.move (fun k hk _ => hbb.block k hk.2) (fun k hk _ => hk) _ _ HT.out)).mono ?_
      rintro e w3 ⟨hb3, v3, rfl, hr3⟩
      obtain ⟨u3, A3, n3, d3, rfl⟩ := repS_shape (RepSF.rep _ _ hr3)
      have hret3 := hret2.below hb3 hret2.lt
      have hbb3 := hbb.trans (hb3.mono hbb.size)
      have hsz3 : w.heap.size + 2 ≤ w3.heap.size := Nat.le_trans hsz hb3.size
      have HR3 := Lib.hid hr3
      have HRET := Lib.hid hret3
      clear hret2 hbox2 hr3 hret3 p0 p1 c2 c3
      go_wp2_with fail
      refine (l1List_any (fun k => (F k ∧ k < w.heap.size) ∨ w2.heap.size ≤ k) [108, 97, 109] ⟨w3.heap.size, 0, none⟩ 1 [ofTerm t'] [.string ⟨u3.toArray⟩, .slice A3 n3 d3] _ (by simp) (by simp) (cell_two_new w3 _ _ _) ?_).mono ?_
      · exact RepFF.one (RepSF.move (fun k _ hk => Below.heap_alloc _ _ _ hk) (fun k hk _ => hk) _ _ HR3.out)
      rintro e w4 ⟨hb4, v4, rfl, hr4⟩
      obtain ⟨u4, A4, n4, d4, rfl⟩ := repS_shape (RepSF.rep _ _ hr4)
      have hret4 := (HRET.out.alloc (.cells #[.string ⟨u3.toArray⟩, .slice A3 n3 d3] 55)).below hb4 (by simp; omega)
      obtain ⟨r0, r1, z0, z1⟩ := blk_cells hret4
      have hbb4 := (hbb3.alloc hbb3.size (.cells #[.string ⟨u3.toArray⟩, .slice A3 n3 d3] 55)).trans (hb4.mono (by simp; omega))
      have HR4 := Lib.hid hr4
      clear hr4 hret4 hb4
      go_wp2_with fail
      refine bodyPost_ret (v := .agg #[.string ⟨u4.toArray⟩, .slice A4 n4 d4]) ?_ rfl ?_
      · simp [results, Tryz.results68, go_sem, r0, r1]
      · refine TreePost.mk rfl ?_ ((hbb4.setCell (by simp) _).setCell (by simp) _)
        refine RepSF.move ?_ ?_ _ _ HR4.out
        · intro k hk hk2
          rw [Below.heap_setCell _ _ _ _ (by show k ≠ w.heap.size + 1; simp at hk; omega), Below.heap_setCell _ _ _ _ (by show k ≠ w.heap.size + 1; simp at hk; omega)]
        · intro k hk hk2
          simp at hk
          rcases hk with (hk | hk) | hk
          · exact .inl hk.1
          · exact .inr (by omega)
          · exact .inr (by omega)
    | app t l =>
      have HR := Lib.hid (RepSF.rep _ _ hr)
      obtain ⟨b, c, y0, x1, y1, gb, db, ys, rfl, h1, h2, c0, c1, c2, c3, ht, c4, c5, h3, h4, hc, hf⟩ := repSF_app hr
      have C2 := Lib.hid c2
      have C3 := Lib.hid c3
      have C5 := Lib.hid c5
      have HC := Lib.hid hc
      have HT := Lib.hid (repSF_below ht)
      have HF := Lib.hid hf
      have IH := Lib.hid ih
      rw [ok, Bool.and_eq_true] at hok
      have HO1 := Lib.hid hok.1
      have HO2 := Lib.hid ((oks_mem (K + aa) l).1 hok.2)
      rw [Rt.size] at hn hkk
      have hbl : l.length ≤ 100 := by
        have : ∀ l : List Term, l.length ≤ sizes l := by
          intro l
          induction l with
          | nil => simp
          | cons u l ih => have := size_pos u; simp only [sizes, List.length_cons]; omega
        have := this l
        omega
      have e0 : ofTerm (swp L K (.app t l)) = .list [.atom [97, 112, 112], ofTerm (swp L K t), .list (.atom [109] :: ofTerms (swps L K l))] := by rw [swp]; rfl
      rw [e0]
      clear e0
      clear c0 c1 c2 c3 c4 c5 ht hc hf hr ih hok
      unfold maxLen at h2 h4
      rw [st_eq] at HR ⊢
      obtain ⟨i0, hi0, hz0, hz1, hz2⟩ := info_parts tree_info
      go_enter Tryz.func68, Tryz.ntmps68
      go_wp2_with fail
      have hret : Blk ((w.alloc (.cells #[.string ⟨#[]⟩, .slice (some ⟨b, 0, none⟩) 3 c] 55)).alloc (.cells #[.string ⟨#[]⟩, .slice none 0 0] 55)) (w.heap.size + 1) 55 #[.string ⟨#[]⟩, .slice none 0 0] := by
        have := Blk.new (w.alloc (.cells #[.string ⟨#[]⟩, .slice (some ⟨b, 0, none⟩) 3 c] 55)) 55 #[.string ⟨#[]⟩, .slice none 0 0]
        simpa using this
      have hbox : Blk ((w.alloc (.cells #[.string ⟨#[]⟩, .slice (some ⟨b, 0, none⟩) 3 c] 55)).alloc (.cells #[.string ⟨#[]⟩, .slice none 0 0] 55)) w.heap.size 55 #[.string ⟨#[]⟩, .slice (some ⟨b, 0, none⟩) 3 c] := (Blk.new _ _ _).alloc _
      have hW := below_two w (.cells #[.string ⟨#[]⟩, .slice (some ⟨b, 0, none⟩) 3 c] 55) (.cells #[.string ⟨#[]⟩, .slice none 0 0] 55)
      generalize (w.alloc (.cells #[.string ⟨#[]⟩, .slice (some ⟨b, 0, none⟩) 3 c] 55)).alloc (.cells #[.string ⟨#[]⟩, .slice none 0 0] 55) = W at *
      have hKW := below_keeps hW
      refine (l1Head_any _ _ _ (HR.out.keep hKW)).mono ?_
      rintro e w2 ⟨rfl, hb2⟩
      rw [st_eq, show headT (ofTerm (.app t l)) = [97, 112, 112] from rfl]
      have hK2 := hKW.trans (below_keeps hb2)
      have hbox2 := hbox.below hb2 hbox.lt
      have hret2 := hret.below hb2 hret.lt
      have hsz : w.heap.size + 2 ≤ w2.heap.size := hret2.lt
      have hbb := hW.trans (hb2.mono hW.size)
      obtain ⟨p0, p1, _, _⟩ := blk_cells hbox2
      have c2 := hK2 _ _ C2.out
      have c3 := hK2 _ _ C3.out
      clear hret hbox hW hb2
      have c5 := cell_alloc (hK2 _ _ C5.out)
      have p1' := cell_alloc p1
      clear c2 c3 p0
      go_wp2_with fail
      go_loopw [11, 13] (fun z i wr => ∃ k g d xs, i = .int .i64 (((k : Nat) : Int) + 1) ∧ z = .slice (some ⟨g, 0, none⟩) k d ∧ SwRel F L K w.heap.size w2.heap.size w2 l wr k g d xs) (fun _ i _ => l.length + 1 - (intOf i).toNat)
      case atStart =>
        refine ⟨0, w2.heap.size, 0, [], rfl, rfl, Nat.zero_le _, ?_, Nat.le_refl _, by decide, Nat.le_refl _, by simp, by simp [swps, ofTerms, RepFF], below_one _ _⟩
        exact own_new w2 55 #[] 0 2 w2.heap.size (Nat.le_refl _) rfl (by decide)
      case round =>
        obtain ⟨k, g, d, xs, rfl, rfl, hrel⟩ := hrel
        have hk := hrel.le
        have hbb2 : Below w.heap.size w wr := hbb.trans (hrel.below.mono (by omega))
        have hKr : Keeps w wr := below_keeps hbb2
        have hszr : w2.heap.size ≤ wr.heap.size := hrel.below.size
        have HREL := Lib.hid hrel
        clear hrel
        by_cases hlt : k < l.length
        · obtain ⟨u, hu⟩ : ∃ u, l[k]? = some u := ⟨l[k], List.getElem?_eq_getElem hlt⟩
          obtain ⟨x, y, e1, e2, hrt⟩ := RepFF.at _ ys (k + 1) (ofTerm u) HF.out (by rw [List.getElem?_cons_succ]; exact ofTerms_at l k u hu)
          have d1 := hKr _ _ (HC.out ((k + 1) * 2) x e1)
          have d2 := hKr _ _ (HC.out ((k + 1) * 2 + 1) y e2)
          have hum : u ∈ l := List.mem_of_getElem? hu
          have hru : RepSF (fun q => F q ∧ q < w.heap.size) wr (ofTerm u) (.agg #[x, y]) := RepSF.move (fun q hq _ => hbb2.block q hq.2) (fun q hq _ => hq) _ _ (repSF_below hrt)
          have HU := Lib.hid hru
          have HST := Lib.hid (swps_snoc L K l k u hu)
          have q1 := size_mem l u hum
          have q2 := HO2.out u hum
          have Q2 := Lib.hid q2
          clear e1 e2 hrt hu hum hru q2
          go_wp2_with fail
          refine (IH.out (fun q => F q ∧ q < w.heap.size) u _ K wr (by omega) (by omega) Q2.out HU.out).mono ?_
          rintro e w3 ⟨hb3, v3, rfl, hr3⟩
          obtain ⟨u3, A3, n3, d3, rfl⟩ := repS_shape (RepSF.rep _ _ hr3)
          have hown3 : w3.ownsRow w2.heap.size 55 2 (.slice (some ⟨g, 0, none⟩) k d) k xs :=
            HREL.out.own.kept (row := none) ⟨hb3.os, hb3.tape, hb3.output, hb3.size, fun q hq _ => hb3.block q hq⟩ (by simp [Value.ownBlock])
          have HOWN := Lib.hid hown3
          have HR3 := Lib.hid hr3
          have HB3 := Lib.hid hb3
          have hsz3 : wr.heap.size ≤ w3.heap.size := hb3.size
          clear hown3 hr3 hb3
          go_wp2_with (at_builtin; refine wpList_append_own_at _ rfl _ _ 53 rfl w2.heap.size 55 i0 (.agg #[.string ⟨#[]⟩, .slice none 0 0]) 2 40 Tryz.underlying53 hi0 hz0 hz1 hz2 rfl (Nat.succ_pos 1) (.slice (some ⟨g, 0, none⟩) k d) k xs rfl (HOWN.out.alloc _) ⟨w3.heap.size, 0, none⟩ 1 1 [.string ⟨u3.toArray⟩, .slice A3 n3 d3] rfl rfl (cell_two_new _ _ _ _) ?_ ?_ ?_ ?_ ?_)
          · intro x hx
            simp at hx
            rcases hx with rfl | rfl <;> rfl
          · unfold maxLen; omega
          · omega
          · simp; omega
          · intro v' w5 hown5 hgrow5 _ hat5
            obtain ⟨A5, c5', rfl⟩ := own_shape hown5
            obtain ⟨g5, rfl, o1, o2, o3, o4, o5⟩ := own_cells hown5 (Nat.succ_pos _)
            have hgS := HREL.out.gS
            have hgB := HREL.out.gB
            have hg5 : ∀ q, q < w3.heap.size → q ≠ g → q ≠ g5 := by
              intro q hq hne e
              rcases hat5 with h | h
              · simp [Value.ownBlock] at h; omega
              · simp [Value.ownBlock] at h; omega
            have hal : ∀ q, q < w3.heap.size → q ≠ g → w5.heap[q]? = w3.heap[q]? := by
              intro q hq hne
              rw [hgrow5.block q (by simp; omega) (by simp [Value.ownBlock]; exact hne), Below.heap_alloc _ _ _ hq]
            have hrel5 : SwRel F L K w.heap.size w2.heap.size w2 l w5 (k + 1) g5 c5' (xs ++ [.string ⟨u3.toArray⟩, .slice A3 n3 d3]) := by
              refine ⟨by omega, hown5, o3, o4, o1, o2, ?_, ?_⟩
              · rw [HST.out, ofTerms_append]
                refine RepFF.append _ _ _ _ ?_ (RepFF.one ?_)
                · refine RepFF.move ?_ ?_ _ _ HREL.out.rep
                  · intro q hq hq2
                    rw [hal q (by omega) hq.2]
                    exact HB3.out.block q hq2
                  · intro q hq hq2
                    exact ⟨hq.1, hg5 q (by omega) hq.2⟩
                · refine RepSF.move ?_ ?_ _ _ HR3.out
                  · intro q hq hq2
                    refine hal q hq2 ?_
                    rcases hq with hq | hq
                    · omega
                    · omega
                  · intro q hq hq2
                    refine ⟨?_, hg5 q hq2 ?_⟩
                    · rcases hq with hq | hq
                      · exact .inl hq
                      · exact .inr (by omega)
                    · rcases hq with hq | hq
                      · omega
                      · omega
              · exact ((HREL.out.below.trans (HB3.out.mono (by omega))).alloc (by omega) _).grown hgrow5 (by simp; omega) (fun q hq => by simp [Value.ownBlock] at hq; omega)
            have HREL5 := Lib.hid hrel5
            clear hrel5 hown5 hgrow5 hat5 o1 o2 o3 o4 o5 hg5 hal
            go_wp2_with fail
            go_roundw
            case rel => exact ⟨k + 1, g5, c5', _, by go_num, rfl, HREL5.out⟩
            case measure => simp [intOf]; omega
        · obtain rfl : k = l.length := by omega
          have e : l.take l.length = l := List.take_of_length_le (Nat.le_refl _)
          have HE := Lib.hid e
          have p1r : wr.cell? ⟨w.heap.size, 1, none⟩ = some (.slice (some ⟨b, 0, none⟩) 3 c) := (HREL.out.below.cell (p := ⟨w.heap.size, 1, none⟩) (by show w.heap.size < _; omega)).trans p1
          have c2 := hKr _ _ C2.out
          have c3 := hKr _ _ C3.out
          clear e p1 p1' c5
          go_wp2_with fail
          refine (IH.out (fun q => F q ∧ q < w.heap.size) t _ K wr (by omega) (by omega) HO1.out (RepSF.move (fun q hq _ => hbb2.block q hq.2) (fun q hq _ => hq) _ _ HT.out)).mono ?_
          rintro e w3 ⟨hb3, v3, rfl, hr3⟩
          obtain ⟨u3, A3, n3, d3, rfl⟩ := repS_shape (RepSF.rep _ _ hr3)
          have hsz3 : wr.heap.size ≤ w3.heap.size := hb3.size
          have hgS := HREL.out.gS
          have hgB := HREL.out.gB
          have hbag := l1List_any (fun q => (F q ∧ q < w.heap.size) ∨ w2.heap.size ≤ q) [109] ⟨g, 0, none⟩ d (ofTerms (swps L K l)) xs w3 (by rw [ofTerms_length, swps_length]; omega) (by show g < _; omega)
            (by
              intro j u hu
              rw [hb3.cell (by rw [block_of_add]; exact hgS)]
              exact HREL.out.own.cells (g := g) rfl j u hu)
            (by
              have := HREL.out.rep
              rw [HE.out] at this
              exact RepFF.move (fun q _ hq2 => hb3.block q hq2) (fun q hq _ => hq.1) _ _ this)
          rw [ofTerms_length, swps_length] at hbag
          have HBG := Lib.hid hbag
          have HR3 := Lib.hid hr3
          have hbb3 := hbb2.trans (hb3.mono hbb2.size)
          have hb3' := hb3
          clear hbag hr3 c2 c3 p1r
          go_wp2_with fail
          refine HBG.out.mono ?_
          rintro e w4 ⟨hb4, v4, rfl, hr4⟩
          obtain ⟨u4, A4, n4, d4, rfl⟩ := repS_shape (RepSF.rep _ _ hr4)
          have hsz4 : w3.heap.size ≤ w4.heap.size := hb4.size
          have hbb4 := hbb3.trans (hb4.mono hbb3.size)
          have HR4 := Lib.hid hr4
          have hb4' := Lib.hid hb4
          clear hr4 hb4
          go_wp2_with fail
          refine (l1List_any (fun q => (F q ∧ q < w.heap.size) ∨ w2.heap.size ≤ q) [97, 112, 112] ⟨w4.heap.size, 0, none⟩ 2 [ofTerm (swp L K t), .list (.atom [109] :: ofTerms (swps L K l))] [.string ⟨u3.toArray⟩, .slice A3 n3 d3, .string ⟨u4.toArray⟩, .slice A4 n4 d4] _ (by simp) (by simp) (cells_new w4 _ _ _ rfl) ?_).mono ?_
          · rw [RepFF]
            refine ⟨_, _, _, rfl, ?_, RepFF.one ?_⟩
            · refine RepSF.move ?_ ?_ _ _ HR3.out
              · intro q hq hq2
                rw [Below.heap_alloc _ _ _ (by omega)]
                exact hb4'.out.block q hq2
              · intro q hq hq2
                rcases hq with hq | hq
                · exact .inl hq
                · exact .inr (by omega)
            · refine RepSF.move (fun q _ hq2 => Below.heap_alloc _ _ _ hq2) ?_ _ _ HR4.out
              intro q hq hq2
              rcases hq with hq | hq
              · exact hq
              · exact .inr (by omega)
          rintro e w5 ⟨hb5, v5, rfl, hr5⟩
          obtain ⟨u5, A5, n5, d5, rfl⟩ := repS_shape (RepSF.rep _ _ hr5)
          have hret5 : Blk w5 (w.heap.size + 1) 55 #[.string ⟨#[]⟩, .slice none 0 0] :=
            ((((hret2.below HREL.out.below (by omega)).below hb3' (by omega)).below hb4'.out (by omega)).alloc (.cells #[.string ⟨u3.toArray⟩, .slice A3 n3 d3, .string ⟨u4.toArray⟩, .slice A4 n4 d4] 55)).below hb5 (by simp; omega)
          obtain ⟨r0, r1, z0, z1⟩ := blk_cells hret5
          have hbb5 := (hbb4.alloc hbb4.size (.cells #[.string ⟨u3.toArray⟩, .slice A3 n3 d3, .string ⟨u4.toArray⟩, .slice A4 n4 d4] 55)).trans (hb5.mono (by simp; omega))
          have HR5 := Lib.hid hr5
          clear hr5 hret5 hb5
          go_wp2_with fail
          refine bodyPost_ret (v := .agg #[.string ⟨u5.toArray⟩, .slice A5 n5 d5]) ?_ rfl ?_
          · simp [results, Tryz.results68, go_sem, r0, r1]
          · refine TreePost.mk rfl ?_ ((hbb5.setCell (by simp) _).setCell (by simp) _)
            refine RepSF.move ?_ ?_ _ _ HR5.out
            · intro k hk hk2
              rw [Below.heap_setCell _ _ _ _ (by show k ≠ w.heap.size + 1; simp at hk; omega), Below.heap_setCell _ _ _ _ (by show k ≠ w.heap.size + 1; simp at hk; omega)]
            · intro k hk hk2
              simp at hk
              rcases hk with (hk | hk) | hk
              · exact .inl hk.1
              · exact .inr (by omega)
              · exact .inr (by omega)


end Go.Proofs.YtomaknmemhpghaaGreatDoor
