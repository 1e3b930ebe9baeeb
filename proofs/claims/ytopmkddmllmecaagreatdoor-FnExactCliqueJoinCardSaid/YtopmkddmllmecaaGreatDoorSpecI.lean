/- The walk of l1List. The walk of l1Sort, over that of l1Bag. -/
import Derived.Test.YtopmkddmllmecaaGreatDoorSpecE
import Derived.Test.YtopmkddmllmecaaGreatDoorPure
/-! The walk of l1List. -/
namespace Go.Proofs.YtopmkddmllmecaaGreatDoor
open Go.RowKit Rt

/-- A struct that the model hands back: it is a tree, in blocks among F or new. -/
def TreePost (F : Nat → Prop) (w : World) (t : Tree) (e : Ending) (w' : World) : Prop :=
  Below w.heap.size w w' ∧ ∃ v, e = .returned v ∧ RepSF (fun k => F k ∨ w.heap.size ≤ k) w' t v

theorem TreePost.mk {F : Nat → Prop} {w w' : World} {t : Tree} {v : Value} {e : Ending} (h : e = .returned v) (hr : RepSF (fun k => F k ∨ w.heap.size ≤ k) w' t v) (hb : Below w.heap.size w w') : TreePost F w t e w' := ⟨hb, v, h, hr⟩

theorem below_alike {F : Nat → Prop} {w w' : World} (h : Below w.heap.size w w') : AlikeAt F w w' := fun k _ hk => h.block k hk

theorem repF_one {w : World} : ∀ (l : List Tree) (xs : List Value), RepF w l xs → ∀ u ∈ xs, u.oneCell' = true
  | [], xs, h, u, hu => by rw [RepF] at h; subst h; simp at hu
  | t :: l, xs, h, u, hu => by
    rw [RepF] at h
    obtain ⟨x, y, r, rfl, h3, h4⟩ := h
    obtain ⟨_, _, _, _, hv⟩ := repS_shape h3
    simp at hv
    obtain ⟨rfl, rfl⟩ := hv
    rcases List.mem_cons.1 hu with rfl | hu
    · rfl
    · rcases List.mem_cons.1 hu with rfl | hu
      · rfl
      · exact repF_one l r h4 u hu

/-- A row that the call has just laid. -/
theorem own_new (w : World) (e : TypeId) (cs : Array Value) (n size base : Nat) (hb : base ≤ w.heap.size) (hs : cs.size = n * size) (hn : n ≤ maxLen) :
    (w.alloc (.cells cs e)).ownsRow base e size (.slice (some ⟨w.heap.size, 0, none⟩) n n) n cs.toList := by
  refine ⟨by simpa using hs, .inr ⟨w.heap.size, n, cs, rfl, hb, Blk.new w e cs, Nat.le_refl _, hn, hs, ?_⟩⟩
  rw [List.take_of_length_le (by simp; omega)]

set_option maxHeartbeats 800000 in
theorem l1List_any (F : Nat → Prop) (h : B) (ad : Addr) (c : Nat) (l : List Tree) (xs : List Value) (w : World) (hlen : l.length ≤ 100000) (hb : ad.block < w.heap.size)
    (hc : ∀ j u, xs[j]? = some u → w.cell? (ad.add j) = some u) (hr : RepFF F w l xs) :
    Calls Tryz.prog 82 #[st h, .slice (some ad) l.length c] w (TreePost F w (.list (.atom h :: l))) := by
  obtain ⟨i0, hi0, hz0, hz1, hz2⟩ := info_parts tree_info
  have hx1 : Hid (xs.length = l.length * 2) := RepF.length l xs (RepFF.rep _ _ hr)
  have hx2 : Hid (∀ u ∈ xs, u.oneCell' = true) := repF_one l xs (RepFF.rep _ _ hr)
  have HC := Lib.hid hc
  have HR := Lib.hid hr
  clear hc hr
  rw [st_eq]
  go_enter Tryz.func82, Tryz.ntmps82
  go_wp2_with (at_builtin; refine wpList_append_own_at _ rfl _ _ 82 rfl (w.heap.size + 1) 84 i0 (.agg #[.string ⟨#[]⟩, .slice none 0 0]) 2 40 Tryz.underlying82 hi0 hz0 hz1 hz2 rfl (Nat.succ_pos 1) (.slice (some ⟨w.heap.size + 1, 0, none⟩) 1 1) 1 [.string ⟨h.toArray⟩, .slice none 0 0] rfl ?_ ad l.length c xs rfl hx1.out ?_ hx2.out ?_ ?_ ?_ ?_)
  · have := own_new (w.alloc (.cells #[.string ⟨#[]⟩, .slice none 0 0] 84)) 84 #[.string ⟨h.toArray⟩, .slice none 0 0] 1 2 (w.heap.size + 1) (by simp) rfl (by decide)
    simpa using this
  · intro j u hu
    rw [World.cell?_of_block (Below.heap_alloc _ _ _ (by rw [block_of_add]; simp; omega)), World.cell?_of_block (Below.heap_alloc _ _ _ (by rw [block_of_add]; exact hb))]
    exact HC.out j u hu
  · unfold maxLen; omega
  · omega
  · simp
  · intro v' w3 hown3 hgrow3 _ hat3
    obtain ⟨A3, c3, rfl⟩ := own_shape hown3
    obtain ⟨g3, rfl, q1, q2, q3, q4, q5⟩ := own_cells hown3 (by omega)
    have hret : Blk w3 w.heap.size 84 #[.string ⟨#[]⟩, .slice none 0 0] := by
      refine ((Blk.new w 84 #[.string ⟨#[]⟩, .slice none 0 0]).alloc _).grown hgrow3 ?_
      simp [Value.ownBlock]
    have hbel : Below w.heap.size w w3 := (below_two w _ _).grown hgrow3 (by simp; omega) (fun k hk => by simp [Value.ownBlock] at hk; omega)
    obtain ⟨r0, r1, z0, z1⟩ := blk_cells hret
    have hsz : w.heap.size + 1 ≤ w3.heap.size := hret.lt
    have hal : ∀ k, k < w.heap.size → w3.heap[k]? = w.heap[k]? := fun k hk => hbel.block k hk
    have HB := Lib.hid hbel
    have HQ := Lib.hid q5
    have HA := Lib.hid hal
    clear hown3 hgrow3 hat3 hret hbel q5 hal
    go_wp2_with fail
    refine bodyPost_ret (v := .agg #[.string ⟨#[]⟩, .slice (some ⟨g3, 0, none⟩) (1 + l.length) c3]) ?_ rfl ?_
    · simp [results, Tryz.results82, go_sem, r0, r1]
    · refine TreePost.mk rfl ?_ ((HB.out.setCell (Nat.le_refl _) _).setCell (Nat.le_refl _) _)
      rw [RepSF]
      refine ⟨g3, c3, [.string ⟨h.toArray⟩, .slice none 0 0] ++ xs, by simp [st, Nat.add_comm], by simp; omega, q4, ?_, ?_, .inr (by omega), by simp⟩
      · intro j' u' hu'
        rw [World.cell?_of_block (a := ⟨g3, j', none⟩) (Below.heap_setCell _ _ _ _ (by show g3 ≠ w.heap.size; omega)), World.cell?_of_block (a := ⟨g3, j', none⟩) (Below.heap_setCell _ _ _ _ (by show g3 ≠ w.heap.size; omega))]
        exact HQ.out j' u' hu'
      · rw [List.cons_append, List.cons_append, List.nil_append, RepFF]
        refine ⟨_, _, _, rfl, by rw [RepSF]; rfl, ?_⟩
        refine RepFF.move ?_ ?_ _ _ HR.out
        · intro k hk hk2
          rw [Below.heap_setCell _ _ _ _ (by show k ≠ w.heap.size; omega), Below.heap_setCell _ _ _ _ (by show k ≠ w.heap.size; omega)]
          exact HA.out k hk2
        · exact fun k hk _ => .inl hk

end Go.Proofs.YtopmkddmllmecaaGreatDoor

/-! The walk of l1Sort, over that of l1Bag. -/
namespace Go.Proofs.YtopmkddmllmecaaGreatDoor
open Go.RowKit Rt

/-- What l1Bag does. -/
def BagSaid : Prop := ∀ (F : Nat → Prop) (ad : Addr) (c m : Nat) (b : List Term) (xs : List Value) (w : World), b.length ≤ 10000 → ad.block < w.heap.size → ad.spot = none → b.length ≤ c → c ≤ maxLen → oks m b = true → (∀ u ∈ b, (text u).length ≤ 100000) →
  (∀ j u, xs[j]? = some u → w.cell? (ad.add j) = some u) → RepFF F w (ofTerms b) xs →
  Calls Tryz.prog 102 #[.slice (some ad) b.length c] w (TreePost F w (.list (.atom sM :: ofTerms (sortBag b))))

theorem repSF_below {F : Nat → Prop} {w : World} {t : Tree} {v : Value} (h : RepSF F w t v) : RepSF (fun k => F k ∧ k < w.heap.size) w t v :=
  RepSF.move (fun _ _ _ => rfl) (fun _ h1 h2 => ⟨h1, h2⟩) t v h

theorem repSF_list {F : Nat → Prop} {w : World} {l : List Tree} {x y : Value} (h : RepSF F w (.list l) (.agg #[x, y])) :
    x = st [] ∧ ∃ b c xs, y = .slice (some ⟨b, 0, none⟩) l.length c ∧ l.length ≤ c ∧ c ≤ maxLen ∧ Cells w b xs ∧ RepFF F w l xs ∧ F b := by
  rw [RepSF] at h
  obtain ⟨b, c, xs, hv, h1, h2, h3, h4, h5, _⟩ := h
  simp at hv
  exact ⟨hv.1, b, c, xs, hv.2, h1, h2, h3, h4, h5⟩

theorem repFF_cons {F : Nat → Prop} {w : World} {t : Tree} {l : List Tree} {xs : List Value} (h : RepFF F w (t :: l) xs) : ∃ x y r, xs = x :: y :: r ∧ RepSF F w t (.agg #[x, y]) ∧ RepFF F w l r := by
  rw [RepFF] at h; exact h

theorem RepFF.at {F : Nat → Prop} {w : World} : ∀ (l : List Tree) (xs : List Value) (i : Nat) (t : Tree), RepFF F w l xs → l[i]? = some t → ∃ x y, xs[i * 2]? = some x ∧ xs[i * 2 + 1]? = some y ∧ RepSF F w t (.agg #[x, y])
  | [], xs, i, t, e, h => by simp at h
  | u :: l, xs, 0, t, e, h => by
    rw [RepFF] at e
    obtain ⟨x, y, r, rfl, h3, h4⟩ := e
    simp at h; subst h
    exact ⟨x, y, by simp, by simp, h3⟩
  | u :: l, xs, i + 1, t, e, h => by
    rw [RepFF] at e
    obtain ⟨x, y, r, rfl, h3, h4⟩ := e
    obtain ⟨x', y', a, b, c⟩ := RepFF.at l r i t h4 (by simpa using h)
    refine ⟨x', y', ?_, ?_, c⟩
    · rw [show (i + 1) * 2 = i * 2 + 1 + 1 by omega]; simpa using a
    · rw [show (i + 1) * 2 + 1 = i * 2 + 1 + 1 + 1 by omega]; simpa using b

/-- What lies behind a lam. -/
theorem repSF_lam {F : Nat → Prop} {w : World} {t : Term} {v : Value} (h : RepSF F w (ofTerm (.lam t)) v) :
    ∃ b c y0 x1 y1, v = .agg #[st [], .slice (some ⟨b, 0, none⟩) 2 c] ∧ 2 ≤ c ∧ c ≤ maxLen ∧ w.cell? ⟨b, 0, none⟩ = some (st sLam) ∧ w.cell? ⟨b, 1, none⟩ = some y0 ∧
      w.cell? ⟨b, 2, none⟩ = some x1 ∧ w.cell? ⟨b, 3, none⟩ = some y1 ∧ RepSF F w (ofTerm t) (.agg #[x1, y1]) := by
  rw [ofTerm, RepSF] at h
  obtain ⟨b, c, xs, rfl, h1, h2, hc, hf, _⟩ := h
  obtain ⟨x0, y0, r, rfl, ha, hf⟩ := repFF_cons hf
  obtain ⟨x1, y1, r, rfl, ht, hf⟩ := repFF_cons hf
  obtain ⟨rfl, rfl⟩ := repS_atom (RepSF.rep _ _ ha)
  exact ⟨b, c, _, x1, y1, rfl, h1, h2, hc 0 _ rfl, hc 1 _ rfl, hc 2 _ rfl, hc 3 _ rfl, ht⟩

/-- What lies behind an app. -/
theorem repSF_app {F : Nat → Prop} {w : World} {t : Term} {l : List Term} {v : Value} (h : RepSF F w (ofTerm (.app t l)) v) :
    ∃ b c y0 x1 y1 g d ys, v = .agg #[st [], .slice (some ⟨b, 0, none⟩) 3 c] ∧ 3 ≤ c ∧ c ≤ maxLen ∧ w.cell? ⟨b, 0, none⟩ = some (st sApp) ∧ w.cell? ⟨b, 1, none⟩ = some y0 ∧
      w.cell? ⟨b, 2, none⟩ = some x1 ∧ w.cell? ⟨b, 3, none⟩ = some y1 ∧ RepSF F w (ofTerm t) (.agg #[x1, y1]) ∧
      w.cell? ⟨b, 4, none⟩ = some (st []) ∧ w.cell? ⟨b, 5, none⟩ = some (.slice (some ⟨g, 0, none⟩) (l.length + 1) d) ∧ l.length + 1 ≤ d ∧ d ≤ maxLen ∧
      Cells w g ys ∧ RepFF F w (.atom sM :: ofTerms l) ys := by
  rw [ofTerm, RepSF] at h
  obtain ⟨b, c, xs, rfl, h1, h2, hc, hf, _⟩ := h
  obtain ⟨x0, y0, r, rfl, ha, hf⟩ := repFF_cons hf
  obtain ⟨x1, y1, r, rfl, ht, hf⟩ := repFF_cons hf
  obtain ⟨x2, y2, r, rfl, hb, hf⟩ := repFF_cons hf
  obtain ⟨rfl, rfl⟩ := repS_atom (RepSF.rep _ _ ha)
  obtain ⟨rfl, g, d, ys, rfl, h3, h4, h5, h6, _⟩ := repSF_list hb
  have hl : (ofTerms l).length = l.length := ofTerms_length l
  simp only [List.length_cons, hl] at h3
  refine ⟨b, c, _, x1, y1, g, d, ys, rfl, h1, h2, hc 0 _ rfl, hc 1 _ rfl, hc 2 _ rfl, hc 3 _ rfl, ht, hc 4 _ rfl, ?_, h3, h4, h5, h6⟩
  rw [hc 5 _ rfl]
  simp [hl]

/-- What holds at the head of the loop that sorts the terms of a bag. -/
structure SortRel (F : Nat → Prop) (B B2 : Nat) (w2 : World) (l : List Term) (wr : World) (k g d : Nat) (xs : List Value) : Prop where
  le : k ≤ l.length
  own : wr.ownsRow B2 84 2 (.slice (some ⟨g, 0, none⟩) k d) k xs
  kd : k ≤ d
  dm : d ≤ maxLen
  gB : B2 ≤ g
  gS : g < wr.heap.size
  rep : RepFF (fun q => ((F q ∧ q < B) ∨ B2 ≤ q) ∧ q ≠ g) wr (ofTerms (sorts (l.take k))) xs
  below : Below B2 w2 wr

theorem cells_new (w : World) (t : TypeId) (cs : Array Value) (xs : List Value) (h : cs.toList = xs) : ∀ j u, xs[j]? = some u → (w.alloc (.cells cs t)).cell? ((⟨w.heap.size, 0, none⟩ : Addr).add j) = some u := by
  intro j u hu
  subst h
  rw [Addr.add_lit, Nat.zero_add, (Blk.new w t cs).cell j]
  simpa using hu

set_option maxHeartbeats 1600000 in
theorem l1Sort_any (hBag : BagSaid) (n : Nat) : ∀ (F : Nat → Prop) (m : Nat) (t : Term) (v : Value) (w : World), size t ≤ n → ok m t = true → (text t).length ≤ 10000 → RepSF F w (ofTerm t) v →
    Calls Tryz.prog 81 #[v] w (TreePost F w (ofTerm (sort t))) := by
  induction n with
  | zero => intro F m t v w h; have := size_pos t; omega
  | succ n ih =>
    intro F m t v w hn hok hlen hr
    have atom : ∀ s : B, v = .agg #[st s, .slice none 0 0] → ofTerm (sort t) = .atom s → Calls Tryz.prog 81 #[v] w (TreePost F w (ofTerm (sort t))) := by
      intro s hv h1
      rw [h1]
      clear h1 hr ih hok hlen
      subst hv
      have hrep : ∀ w, RepS w (.atom s) (.agg #[st s, .slice none 0 0]) := fun w => by rw [RepS]
      rw [st_eq] at hrep ⊢
      go_enter Tryz.func81, Tryz.ntmps81
      go_wp2_with fail
      have hret : Blk ((w.alloc (.cells #[.string ⟨s.toArray⟩, .slice none 0 0] 84)).alloc (.cells #[.string ⟨#[]⟩, .slice none 0 0] 84)) (w.heap.size + 1) 84 #[.string ⟨#[]⟩, .slice none 0 0] := by
        have := Blk.new (w.alloc (.cells #[.string ⟨s.toArray⟩, .slice none 0 0] 84)) 84 #[.string ⟨#[]⟩, .slice none 0 0]
        simpa using this
      have hbox : Blk ((w.alloc (.cells #[.string ⟨s.toArray⟩, .slice none 0 0] 84)).alloc (.cells #[.string ⟨#[]⟩, .slice none 0 0] 84)) w.heap.size 84 #[.string ⟨s.toArray⟩, .slice none 0 0] := (Blk.new _ _ _).alloc _
      have hW := below_two w (.cells #[.string ⟨s.toArray⟩, .slice none 0 0] 84) (.cells #[.string ⟨#[]⟩, .slice none 0 0] 84)
      generalize (w.alloc (.cells #[.string ⟨s.toArray⟩, .slice none 0 0] 84)).alloc (.cells #[.string ⟨#[]⟩, .slice none 0 0] 84) = W at *
      refine (l1Head_any (.atom s) _ _ (hrep _)).mono ?_
      rintro e w2 ⟨rfl, hb2⟩
      rw [st_eq, show headT (.atom s) = [] from rfl]
      have hret2 := hret.below hb2 hret.lt
      have hbox2 := hbox.below hb2 hbox.lt
      obtain ⟨r0, r1, z0, z1⟩ := blk_cells hret2
      obtain ⟨p0, p1, _, _⟩ := blk_cells hbox2
      have hsz : w.heap.size + 2 ≤ w2.heap.size := hret2.lt
      have hbb := hW.trans (hb2.mono hW.size)
      clear hret hbox hret2 hbox2 hW hb2 hrep
      go_wp2_with fail
      refine bodyPost_ret (v := .agg #[.string ⟨s.toArray⟩, .slice none 0 0]) ?_ rfl ?_
      · simp [results, Tryz.results81, go_sem, r0, r1]
      · refine TreePost.mk rfl (by rw [RepSF]; rfl) ((hbb.setCell (by simp) _).setCell (by simp) _)
    cases t with
    | nm s => exact atom s (by rw [ofTerm, RepSF] at hr; exact hr) rfl
    | ix k => exact atom (dec k) (by rw [ofTerm, RepSF] at hr; exact hr) rfl
    | lam t =>
      clear atom
      have HR := Lib.hid (RepSF.rep _ _ hr)
      obtain ⟨b, c, y0, x1, y1, rfl, h1, h2, c0, c1, c2, c3, ht⟩ := repSF_lam hr
      have C2 := Lib.hid c2
      have C3 := Lib.hid c3
      have HT := Lib.hid (repSF_below ht)
      have IH := Lib.hid ih
      have HO := Lib.hid hok
      rw [size] at hn
      rw [text_lam] at hlen
      clear c0 c1 c2 c3 ht hr ih hok
      unfold maxLen at h2
      rw [st_eq] at HR ⊢
      go_enter Tryz.func81, Tryz.ntmps81
      go_wp2_with fail
      have hret : Blk ((w.alloc (.cells #[.string ⟨#[]⟩, .slice (some ⟨b, 0, none⟩) 2 c] 84)).alloc (.cells #[.string ⟨#[]⟩, .slice none 0 0] 84)) (w.heap.size + 1) 84 #[.string ⟨#[]⟩, .slice none 0 0] := by
        have := Blk.new (w.alloc (.cells #[.string ⟨#[]⟩, .slice (some ⟨b, 0, none⟩) 2 c] 84)) 84 #[.string ⟨#[]⟩, .slice none 0 0]
        simpa using this
      have hbox : Blk ((w.alloc (.cells #[.string ⟨#[]⟩, .slice (some ⟨b, 0, none⟩) 2 c] 84)).alloc (.cells #[.string ⟨#[]⟩, .slice none 0 0] 84)) w.heap.size 84 #[.string ⟨#[]⟩, .slice (some ⟨b, 0, none⟩) 2 c] := (Blk.new _ _ _).alloc _
      have hW := below_two w (.cells #[.string ⟨#[]⟩, .slice (some ⟨b, 0, none⟩) 2 c] 84) (.cells #[.string ⟨#[]⟩, .slice none 0 0] 84)
      generalize (w.alloc (.cells #[.string ⟨#[]⟩, .slice (some ⟨b, 0, none⟩) 2 c] 84)).alloc (.cells #[.string ⟨#[]⟩, .slice none 0 0] 84) = W at *
      have hKW := below_keeps hW
      refine (l1Head_any _ _ _ (HR.out.keep hKW)).mono ?_
      rintro e w2 ⟨rfl, hb2⟩
      rw [st_eq, show headT (ofTerm (.lam t)) = [108, 97, 109] from rfl]
      have hK2 := hKW.trans (below_keeps hb2)
      have hbox2 := hbox.below hb2 hbox.lt
      have hret2 := hret.below hb2 hret.lt
      have hsz : w.heap.size + 2 ≤ w2.heap.size := hret2.lt
      have hbb := hW.trans (hb2.mono hW.size)
      obtain ⟨p0, p1, _, _⟩ := blk_cells hbox2
      have c2 := hK2 _ _ C2.out
      have c3 := hK2 _ _ C3.out
      clear hret hbox hW hb2
      go_wp2_with fail
      refine (IH.out (fun k => F k ∧ k < w.heap.size) (m + 1) t _ w2 (by omega) (by have := HO.out; rw [ok] at this; exact this) (by omega) (RepSF.move (fun k hk _ => hbb.block k hk.2) (fun k hk _ => hk) _ _ HT.out)).mono ?_
      rintro e w3 ⟨hb3, v3, rfl, hr3⟩
      obtain ⟨u3, A3, n3, d3, rfl⟩ := repS_shape (RepSF.rep _ _ hr3)
      have hret3 := hret2.below hb3 hret2.lt
      have hbb3 := hbb.trans (hb3.mono hbb.size)
      have hsz3 : w.heap.size + 2 ≤ w3.heap.size := Nat.le_trans hsz hb3.size
      have HR3 := Lib.hid hr3
      have HRET := Lib.hid hret3
      clear hret2 hbox2 hr3 hret3 p0 p1 c2 c3
      go_wp2_with fail
      refine (l1List_any (fun k => (F k ∧ k < w.heap.size) ∨ w2.heap.size ≤ k) [108, 97, 109] ⟨w3.heap.size, 0, none⟩ 1 [ofTerm (sort t)] [.string ⟨u3.toArray⟩, .slice A3 n3 d3] _ (by simp) (by simp) (cell_two_new w3 _ _ _) ?_).mono ?_
      · exact RepFF.one (RepSF.move (fun k _ hk => Below.heap_alloc _ _ _ hk) (fun k hk _ => hk) _ _ HR3.out)
      rintro e w4 ⟨hb4, v4, rfl, hr4⟩
      obtain ⟨u4, A4, n4, d4, rfl⟩ := repS_shape (RepSF.rep _ _ hr4)
      have hret4 := (HRET.out.alloc (.cells #[.string ⟨u3.toArray⟩, .slice A3 n3 d3] 84)).below hb4 (by simp; omega)
      obtain ⟨r0, r1, z0, z1⟩ := blk_cells hret4
      have hbb4 := (hbb3.alloc hbb3.size (.cells #[.string ⟨u3.toArray⟩, .slice A3 n3 d3] 84)).trans (hb4.mono (by simp; omega))
      have HR4 := Lib.hid hr4
      clear hr4 hret4 hb4
      go_wp2_with fail
      refine bodyPost_ret (v := .agg #[.string ⟨u4.toArray⟩, .slice A4 n4 d4]) ?_ rfl ?_
      · simp [results, Tryz.results81, go_sem, r0, r1]
      · refine TreePost.mk rfl ?_ ((hbb4.setCell (by simp) _).setCell (by simp) _)
        refine RepSF.move ?_ ?_ _ _ HR4.out
        · intro k hk hk2
          rw [Below.heap_setCell _ _ _ _ (by show k ≠ w.heap.size + 1; simp at hk; omega), Below.heap_setCell _ _ _ _ (by show k ≠ w.heap.size + 1; simp at hk; omega)]
        · intro k hk hk2
          simp at hk
          rcases hk with (hk | hk) | hk
          · exact .inl hk.1
          · exact .inr (by omega)
          · exact .inr (by omega)
    | app t l =>
      clear atom
      have HR := Lib.hid (RepSF.rep _ _ hr)
      obtain ⟨b, c, y0, x1, y1, gb, db, ys, rfl, h1, h2, c0, c1, c2, c3, ht, c4, c5, h3, h4, hc, hf⟩ := repSF_app hr
      have C2 := Lib.hid c2
      have C3 := Lib.hid c3
      have C5 := Lib.hid c5
      have HC := Lib.hid hc
      have HT := Lib.hid (repSF_below ht)
      have HF := Lib.hid hf
      have IH := Lib.hid ih
      rw [ok, Bool.and_eq_true] at hok
      have HO1 := Lib.hid hok.1
      have HO2 := Lib.hid ((oks_mem m l).1 hok.2)
      rw [size] at hn
      have HLEN := Lib.hid (text_mem t l)
      have hbl := bag_len t l
      have hl1 : (text t).length ≤ 10000 := by rw [text_app] at hlen; omega
      have HBAG := Lib.hid hBag
      clear c0 c1 c2 c3 c4 c5 ht hc hf hr ih hok
      unfold maxLen at h2 h4
      rw [st_eq] at HR ⊢
      obtain ⟨i0, hi0, hz0, hz1, hz2⟩ := info_parts tree_info
      go_enter Tryz.func81, Tryz.ntmps81
      go_wp2_with fail
      have hret : Blk ((w.alloc (.cells #[.string ⟨#[]⟩, .slice (some ⟨b, 0, none⟩) 3 c] 84)).alloc (.cells #[.string ⟨#[]⟩, .slice none 0 0] 84)) (w.heap.size + 1) 84 #[.string ⟨#[]⟩, .slice none 0 0] := by
        have := Blk.new (w.alloc (.cells #[.string ⟨#[]⟩, .slice (some ⟨b, 0, none⟩) 3 c] 84)) 84 #[.string ⟨#[]⟩, .slice none 0 0]
        simpa using this
      have hbox : Blk ((w.alloc (.cells #[.string ⟨#[]⟩, .slice (some ⟨b, 0, none⟩) 3 c] 84)).alloc (.cells #[.string ⟨#[]⟩, .slice none 0 0] 84)) w.heap.size 84 #[.string ⟨#[]⟩, .slice (some ⟨b, 0, none⟩) 3 c] := (Blk.new _ _ _).alloc _
      have hW := below_two w (.cells #[.string ⟨#[]⟩, .slice (some ⟨b, 0, none⟩) 3 c] 84) (.cells #[.string ⟨#[]⟩, .slice none 0 0] 84)
      generalize (w.alloc (.cells #[.string ⟨#[]⟩, .slice (some ⟨b, 0, none⟩) 3 c] 84)).alloc (.cells #[.string ⟨#[]⟩, .slice none 0 0] 84) = W at *
      have hKW := below_keeps hW
      refine (l1Head_any _ _ _ (HR.out.keep hKW)).mono ?_
      rintro e w2 ⟨rfl, hb2⟩
      rw [st_eq, show headT (ofTerm (.app t l)) = [97, 112, 112] from rfl]
      have hK2 := hKW.trans (below_keeps hb2)
      have hbox2 := hbox.below hb2 hbox.lt
      have hret2 := hret.below hb2 hret.lt
      have hsz : w.heap.size + 2 ≤ w2.heap.size := hret2.lt
      have hbb := hW.trans (hb2.mono hW.size)
      obtain ⟨p0, p1, _, _⟩ := blk_cells hbox2
      have c2 := hK2 _ _ C2.out
      have c3 := hK2 _ _ C3.out
      clear hret hbox hW hb2
      have c5 := cell_alloc (hK2 _ _ C5.out)
      have p1' := cell_alloc p1
      clear c2 c3 p0
      go_wp2_with fail
      go_loopw [3, 5] (fun z i wr => ∃ k g d xs, i = .int .i64 (((k : Nat) : Int) + 1) ∧ z = .slice (some ⟨g, 0, none⟩) k d ∧ SortRel F w.heap.size w2.heap.size w2 l wr k g d xs) (fun _ i _ => l.length + 1 - (intOf i).toNat)
      case atStart =>
        refine ⟨0, w2.heap.size, 0, [], rfl, rfl, Nat.zero_le _, ?_, Nat.le_refl _, by decide, Nat.le_refl _, by simp, by simp [sorts, ofTerms, RepFF], below_one _ _⟩
        exact own_new w2 84 #[] 0 2 w2.heap.size (Nat.le_refl _) rfl (by decide)
      case round =>
        obtain ⟨k, g, d, xs, rfl, rfl, hrel⟩ := hrel
        have hk := hrel.le
        have hbb2 : Below w.heap.size w wr := hbb.trans (hrel.below.mono (by omega))
        have hKr : Keeps w wr := below_keeps hbb2
        have hszr : w2.heap.size ≤ wr.heap.size := hrel.below.size
        have HREL := Lib.hid hrel
        clear hrel
        by_cases hlt : k < l.length
        · obtain ⟨u, hu⟩ : ∃ u, l[k]? = some u := ⟨l[k], List.getElem?_eq_getElem hlt⟩
          obtain ⟨x, y, e1, e2, hrt⟩ := RepFF.at _ ys (k + 1) (ofTerm u) HF.out (by rw [List.getElem?_cons_succ]; exact ofTerms_at l k u hu)
          have d1 := hKr _ _ (HC.out ((k + 1) * 2) x e1)
          have d2 := hKr _ _ (HC.out ((k + 1) * 2 + 1) y e2)
          have hum : u ∈ l := List.mem_of_getElem? hu
          have hru : RepSF (fun q => F q ∧ q < w.heap.size) wr (ofTerm u) (.agg #[x, y]) := RepSF.move (fun q hq _ => hbb2.block q hq.2) (fun q hq _ => hq) _ _ (repSF_below hrt)
          have HU := Lib.hid hru
          have HST := Lib.hid (sorts_take l k u hu)
          have q1 := size_mem l u hum
          have q2 := HO2.out u hum
          have q3 := HLEN.out u hum
          have Q2 := Lib.hid q2
          clear e1 e2 hrt hu hum hru q2
          go_wp2_with fail
          refine (IH.out (fun q => F q ∧ q < w.heap.size) m u _ wr (by omega) Q2.out (by omega) HU.out).mono ?_
          rintro e w3 ⟨hb3, v3, rfl, hr3⟩
          obtain ⟨u3, A3, n3, d3, rfl⟩ := repS_shape (RepSF.rep _ _ hr3)
          have hown3 : w3.ownsRow w2.heap.size 84 2 (.slice (some ⟨g, 0, none⟩) k d) k xs :=
            HREL.out.own.kept (row := none) ⟨hb3.os, hb3.tape, hb3.output, hb3.size, fun q hq _ => hb3.block q hq⟩ (by simp [Value.ownBlock])
          have HOWN := Lib.hid hown3
          have HR3 := Lib.hid hr3
          have HB3 := Lib.hid hb3
          have hsz3 : wr.heap.size ≤ w3.heap.size := hb3.size
          clear hown3 hr3 hb3
          go_wp2_with (at_builtin; refine wpList_append_own_at _ rfl _ _ 82 rfl w2.heap.size 84 i0 (.agg #[.string ⟨#[]⟩, .slice none 0 0]) 2 40 Tryz.underlying82 hi0 hz0 hz1 hz2 rfl (Nat.succ_pos 1) (.slice (some ⟨g, 0, none⟩) k d) k xs rfl (HOWN.out.alloc _) ⟨w3.heap.size, 0, none⟩ 1 1 [.string ⟨u3.toArray⟩, .slice A3 n3 d3] rfl rfl (cell_two_new _ _ _ _) ?_ ?_ ?_ ?_ ?_)
          · intro x hx
            simp at hx
            rcases hx with rfl | rfl <;> rfl
          · unfold maxLen; omega
          · omega
          · simp; omega
          · intro v' w5 hown5 hgrow5 _ hat5
            obtain ⟨A5, c5', rfl⟩ := own_shape hown5
            obtain ⟨g5, rfl, o1, o2, o3, o4, o5⟩ := own_cells hown5 (Nat.succ_pos _)
            have hgS := HREL.out.gS
            have hgB := HREL.out.gB
            have hg5 : ∀ q, q < w3.heap.size → q ≠ g → q ≠ g5 := by
              intro q hq hne e
              rcases hat5 with h | h
              · simp [Value.ownBlock] at h; omega
              · simp [Value.ownBlock] at h; omega
            have hal : ∀ q, q < w3.heap.size → q ≠ g → w5.heap[q]? = w3.heap[q]? := by
              intro q hq hne
              rw [hgrow5.block q (by simp; omega) (by simp [Value.ownBlock]; exact hne), Below.heap_alloc _ _ _ hq]
            have hrel5 : SortRel F w.heap.size w2.heap.size w2 l w5 (k + 1) g5 c5' (xs ++ [.string ⟨u3.toArray⟩, .slice A3 n3 d3]) := by
              refine ⟨by omega, hown5, o3, o4, o1, o2, ?_, ?_⟩
              · rw [HST.out, ofTerms_append]
                refine RepFF.append _ _ _ _ ?_ (RepFF.one ?_)
                · refine RepFF.move ?_ ?_ _ _ HREL.out.rep
                  · intro q hq hq2
                    rw [hal q (by omega) hq.2]
                    exact HB3.out.block q hq2
                  · intro q hq hq2
                    exact ⟨hq.1, hg5 q (by omega) hq.2⟩
                · refine RepSF.move ?_ ?_ _ _ HR3.out
                  · intro q hq hq2
                    refine hal q hq2 ?_
                    rcases hq with hq | hq
                    · omega
                    · omega
                  · intro q hq hq2
                    refine ⟨?_, hg5 q hq2 ?_⟩
                    · rcases hq with hq | hq
                      · exact .inl hq
                      · exact .inr (by omega)
                    · rcases hq with hq | hq
                      · omega
                      · omega
              · exact ((HREL.out.below.trans (HB3.out.mono (by omega))).alloc (by omega) _).grown hgrow5 (by simp; omega) (fun q hq => by simp [Value.ownBlock] at hq; omega)
            have HREL5 := Lib.hid hrel5
            clear hrel5 hown5 hgrow5 hat5 o1 o2 o3 o4 o5 hg5 hal
            go_wp2_with fail
            go_roundw
            case rel => exact ⟨k + 1, g5, c5', _, by go_num, rfl, HREL5.out⟩
            case measure => simp [intOf]; omega
        · obtain rfl : k = l.length := by omega
          have e : l.take l.length = l := List.take_of_length_le (Nat.le_refl _)
          have HE := Lib.hid e
          have p1r : wr.cell? ⟨w.heap.size, 1, none⟩ = some (.slice (some ⟨b, 0, none⟩) 3 c) := (HREL.out.below.cell (p := ⟨w.heap.size, 1, none⟩) (by show w.heap.size < _; omega)).trans p1
          have c2 := hKr _ _ C2.out
          have c3 := hKr _ _ C3.out
          clear e p1 p1' c5
          go_wp2_with fail
          refine (IH.out (fun q => F q ∧ q < w.heap.size) m t _ wr (by omega) HO1.out hl1 (RepSF.move (fun q hq _ => hbb2.block q hq.2) (fun q hq _ => hq) _ _ HT.out)).mono ?_
          rintro e w3 ⟨hb3, v3, rfl, hr3⟩
          obtain ⟨u3, A3, n3, d3, rfl⟩ := repS_shape (RepSF.rep _ _ hr3)
          have hsz3 : wr.heap.size ≤ w3.heap.size := hb3.size
          have hgS := HREL.out.gS
          have hgB := HREL.out.gB
          have hbag := HBAG.out (fun q => (F q ∧ q < w.heap.size) ∨ w2.heap.size ≤ q) ⟨g, 0, none⟩ d m (sorts l) xs w3 (by rw [sorts_length]; omega) (by show g < _; omega) rfl (by rw [sorts_length]; exact HREL.out.kd) HREL.out.dm
            (by rw [oks_sorts, oks_mem]; exact HO2.out)
            (by
              intro u hu
              rw [sorts_map] at hu
              obtain ⟨y, hy, rfl⟩ := List.mem_map.1 hu
              rw [text_sort_len]
              have := HLEN.out y hy
              omega)
            (by
              intro j u hu
              rw [hb3.cell (by rw [block_of_add]; exact hgS)]
              exact HREL.out.own.cells (g := g) rfl j u hu)
            (by
              have := HREL.out.rep
              rw [HE.out] at this
              exact RepFF.move (fun q _ hq2 => hb3.block q hq2) (fun q hq _ => hq.1) _ _ this)
          rw [sorts_length] at hbag
          have HBG := Lib.hid hbag
          have HR3 := Lib.hid hr3
          have hbb3 := hbb2.trans (hb3.mono hbb2.size)
          have hb3' := hb3
          clear hbag hr3 c2 c3 p1r
          go_wp2_with fail
          refine HBG.out.mono ?_
          rintro e w4 ⟨hb4, v4, rfl, hr4⟩
          obtain ⟨u4, A4, n4, d4, rfl⟩ := repS_shape (RepSF.rep _ _ hr4)
          have hsz4 : w3.heap.size ≤ w4.heap.size := hb4.size
          have hbb4 := hbb3.trans (hb4.mono hbb3.size)
          have HR4 := Lib.hid hr4
          have hb4' := Lib.hid hb4
          clear hr4 hb4
          go_wp2_with fail
          refine (l1List_any (fun q => (F q ∧ q < w.heap.size) ∨ w2.heap.size ≤ q) [97, 112, 112] ⟨w4.heap.size, 0, none⟩ 2 [ofTerm (sort t), .list (.atom sM :: ofTerms (sortBag (sorts l)))] [.string ⟨u3.toArray⟩, .slice A3 n3 d3, .string ⟨u4.toArray⟩, .slice A4 n4 d4] _ (by simp) (by simp) (cells_new w4 _ _ _ rfl) ?_).mono ?_
          · rw [RepFF]
            refine ⟨_, _, _, rfl, ?_, RepFF.one ?_⟩
            · refine RepSF.move ?_ ?_ _ _ HR3.out
              · intro q hq hq2
                rw [Below.heap_alloc _ _ _ (by omega)]
                exact hb4'.out.block q hq2
              · intro q hq hq2
                rcases hq with hq | hq
                · exact .inl hq
                · exact .inr (by omega)
            · refine RepSF.move (fun q _ hq2 => Below.heap_alloc _ _ _ hq2) ?_ _ _ HR4.out
              intro q hq hq2
              rcases hq with hq | hq
              · exact hq
              · exact .inr (by omega)
          rintro e w5 ⟨hb5, v5, rfl, hr5⟩
          obtain ⟨u5, A5, n5, d5, rfl⟩ := repS_shape (RepSF.rep _ _ hr5)
          have hret5 : Blk w5 (w.heap.size + 1) 84 #[.string ⟨#[]⟩, .slice none 0 0] :=
            ((((hret2.below HREL.out.below (by omega)).below hb3' (by omega)).below hb4'.out (by omega)).alloc (.cells #[.string ⟨u3.toArray⟩, .slice A3 n3 d3, .string ⟨u4.toArray⟩, .slice A4 n4 d4] 84)).below hb5 (by simp; omega)
          obtain ⟨r0, r1, z0, z1⟩ := blk_cells hret5
          have hbb5 := (hbb4.alloc hbb4.size (.cells #[.string ⟨u3.toArray⟩, .slice A3 n3 d3, .string ⟨u4.toArray⟩, .slice A4 n4 d4] 84)).trans (hb5.mono (by simp; omega))
          have HR5 := Lib.hid hr5
          clear hr5 hret5 hb5
          go_wp2_with fail
          refine bodyPost_ret (v := .agg #[.string ⟨u5.toArray⟩, .slice A5 n5 d5]) ?_ rfl ?_
          · simp [results, Tryz.results81, go_sem, r0, r1]
          · refine TreePost.mk rfl ?_ ((hbb5.setCell (by simp) _).setCell (by simp) _)
            refine RepSF.move ?_ ?_ _ _ HR5.out
            · intro k hk hk2
              rw [Below.heap_setCell _ _ _ _ (by show k ≠ w.heap.size + 1; simp at hk; omega), Below.heap_setCell _ _ _ _ (by show k ≠ w.heap.size + 1; simp at hk; omega)]
            · intro k hk hk2
              simp at hk
              rcases hk with (hk | hk) | hk
              · exact .inl hk.1
              · exact .inr (by omega)
              · exact .inr (by omega)

end Go.Proofs.YtopmkddmllmecaaGreatDoor
