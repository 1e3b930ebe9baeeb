/- The walk of l1Bag. -/
import Derived.Test.YtopmkddmllmecaaGreatDoorWords
import Derived.Test.YtopmkddmllmecaaGreatDoorSpecI
import Derived.Handy
import Derived.Deep.DeepCutAuto
set_option linter.unusedSimpArgs false
set_option linter.unusedVariables false
namespace Go.Proofs.YtopmkddmllmecaaGreatDoor
open Go.RowKit Rt

theorem drew_cell {w a : World} (h : Drew w a) {p : Addr} : a.cell? p = w.cell? p := by
  obtain ⟨n, rfl⟩ := h; rfl
theorem Drew.trans {a b c : World} (h : Drew a b) (k : Drew b c) : Drew a c := by
  obtain ⟨m, rfl⟩ := k
  exact Drew.more h m
theorem own_of_blk {W : World} {g n base size : Nat} {e : TypeId} {cs : Array Value} {xs : List Value} (h : Blk W g e cs) (hb : base ≤ g) (hs : cs.size = n * size) (hn : n ≤ maxLen) (hx : cs.toList = xs) :
    W.ownsRow base e size (.slice (some ⟨g, 0, none⟩) n n) n xs := by
  subst hx
  refine ⟨by simpa using hs, .inr ⟨g, n, cs, rfl, hb, h, Nat.le_refl _, hn, hs, ?_⟩⟩
  rw [List.take_of_length_le (by simp; omega)]

theorem blk_second (w : World) (o : Obj) (e : TypeId) (cs : Array Value) : Blk ((w.alloc o).alloc (.cells cs e)) (w.heap.size + 1) e cs := by
  have := Blk.new (w.alloc o) e cs
  simpa using this

theorem own_mono {w : World} {base base' : Nat} {e : TypeId} {size n : Nat} {v : Value} {xs : List Value} (h : w.ownsRow base e size v n xs) (hb : base' ≤ base) : w.ownsRow base' e size v n xs := by
  refine ⟨h.1, ?_⟩
  rcases h.2 with h | ⟨g, cap, cur, hv, hg, r⟩
  · exact .inl h
  · exact .inr ⟨g, cap, cur, hv, by omega, r⟩

theorem reads_blk {W : World} {g n size : Nat} {e : TypeId} {cs : Array Value} {xs : List Value} (h : Blk W g e cs) (hs : cs.size = n * size) (hx : cs.toList = xs) : Reads W W.heap.size size (some ⟨g, 0, none⟩) n xs := by
  subst hx
  refine ⟨by simpa using hs, fun _ => ⟨_, rfl, h.lt, ?_⟩⟩
  intro j u hu
  rw [Addr.add_lit, Nat.zero_add, h.cell j]
  simpa using hu


theorem reads_take {w4 w5 W : World} {base g k d size j : Nat} {e : TypeId} {xs : List Value} (h : w4.ownsRow base e size (.slice (some ⟨g, 0, none⟩) k d) k xs) (hd : Drew w4 w5) (hW : Below w5.heap.size w5 W) (hj : j ≤ k) :
    Reads W w5.heap.size size (some ⟨g, 0, none⟩) j (xs.take (j * size)) := by
  have hl := h.1
  have hlt := (own_block_lt h g rfl).2
  have hs5 : w4.heap.size ≤ w5.heap.size := (hd.below 0).size
  refine ⟨?_, fun _ => ⟨_, rfl, by show g < _; omega, ?_⟩⟩
  · rw [List.length_take, hl]
    exact Nat.min_eq_left (Nat.mul_le_mul_right _ hj)
  · intro i u hu
    have hu2 : xs[i]? = some u := by
      rw [List.getElem?_take] at hu
      split at hu
      · exact hu
      · cases hu
    rw [hW.cell (by rw [block_of_add]; show g < _; omega), drew_cell hd]
    exact h.cells (g := g) rfl i u hu2

theorem reads_drop {w4 w5 W : World} {base g k d size j : Nat} {e : TypeId} {xs : List Value} (h : w4.ownsRow base e size (.slice (some ⟨g, 0, none⟩) k d) k xs) (hd : Drew w4 w5) (hW : Below w5.heap.size w5 W) (hj : j ≤ k) (hkd : k ≤ d) :
    Reads W w5.heap.size size (if d = j then some ⟨g, 0, none⟩ else some ⟨g, j * size, none⟩) (k - j) (xs.drop (j * size)) := by
  have hl := h.1
  have hlt := (own_block_lt h g rfl).2
  have hs5 : w4.heap.size ≤ w5.heap.size := (hd.below 0).size
  refine ⟨by rw [List.length_drop, hl, Nat.sub_mul], fun hn => ⟨⟨g, j * size, none⟩, by rw [if_neg (by omega)], by show g < _; omega, ?_⟩⟩
  intro i u hu
  rw [List.getElem?_drop] at hu
  rw [hW.cell (by rw [block_of_add]; show g < _; omega), drew_cell hd, Addr.add_lit]
  have := h.cells (g := g) rfl (j * size + i) u hu
  rw [Addr.add_lit, Nat.zero_add] at this
  exact this

theorem RepFF.take {F : Nat → Prop} {w : World} : ∀ (l : List Tree) (xs : List Value) (j : Nat), RepFF F w l xs → RepFF F w (l.take j) (xs.take (j * 2))
  | [], xs, j, e => by rw [RepFF] at e; subst e; simp [RepFF]
  | t :: l, xs, 0, e => by simp [RepFF]
  | t :: l, xs, j + 1, e => by
    rw [RepFF] at e
    obtain ⟨x, y, r, rfl, h3, h4⟩ := e
    rw [List.take_succ_cons, show (j + 1) * 2 = j * 2 + 1 + 1 by omega, List.take_succ_cons, List.take_succ_cons, RepFF]
    exact ⟨x, y, _, rfl, h3, RepFF.take l r j h4⟩

theorem RepFF.drop {F : Nat → Prop} {w : World} : ∀ (l : List Tree) (xs : List Value) (j : Nat), RepFF F w l xs → RepFF F w (l.drop j) (xs.drop (j * 2))
  | [], xs, j, e => by rw [RepFF] at e; subst e; simp [RepFF]
  | t :: l, xs, 0, e => by simpa using e
  | t :: l, xs, j + 1, e => by
    rw [RepFF] at e
    obtain ⟨x, y, r, rfl, h3, h4⟩ := e
    rw [List.drop_succ_cons, show (j + 1) * 2 = j * 2 + 1 + 1 by omega, List.drop_succ_cons, List.drop_succ_cons]
    exact RepFF.drop l r j h4

theorem own_done {W : World} {base : Nat} {e : TypeId} {size j k : Nat} {v : Value} {xs ys zs ts : List Value} (h : W.ownsRow base e size v (0 + j + 1 + (k - j)) ([] ++ xs ++ ys ++ zs)) (hj : j ≤ k) (ht : ts = xs ++ ys ++ zs) :
    ∃ g d, v = .slice (some ⟨g, 0, none⟩) (k + 1) d ∧ k + 1 ≤ d ∧ W.ownsRow base e size v (k + 1) ts := by
  rw [show 0 + j + 1 + (k - j) = k + 1 by omega, List.nil_append, ← ht] at h
  obtain ⟨A, c, rfl⟩ := own_shape h
  obtain ⟨g, rfl, _, _, h3, _, _⟩ := own_cells h (Nat.succ_pos _)
  exact ⟨g, c, rfl, h3, h⟩

theorem str_info : (Tryz.prog.info? 9).map (fun i => (i.zero, i.size, i.bytes)) = some (some (.string ⟨#[]⟩), 1, 16) := by kernel_rfl

theorem ins_at (t : Term) : ∀ (l : List Term) (j : Nat), j ≤ l.length → (∀ i, i < j → ∀ u, l[i]? = some u → ltB (text t) (text u) = false) → (j = l.length ∨ ∃ u, l[j]? = some u ∧ ltB (text t) (text u) = true) →
    ins t l = l.take j ++ t :: l.drop j
  | [], j, h1, _, _ => by
    have : j = 0 := by simpa using h1
    subst this; rfl
  | u :: l, 0, _, _, h3 => by
    rcases h3 with h3 | ⟨x, hx, h3⟩
    · simp at h3
    · simp at hx; subst hx
      simp [ins, h3]
  | u :: l, j + 1, h1, h2, h3 => by
    have h4 := h2 0 (by omega) u rfl
    rw [ins, if_neg (by simp [h4]), ins_at t l j (by simpa using h1) (fun i hi x hx => h2 (i + 1) (by omega) x (by simpa using hx)) (by simpa using h3)]
    simp

theorem ins_length (t : Term) (l : List Term) : (ins t l).length = l.length + 1 := by
  rw [(ins_perm t l).length_eq]; rfl

/-- The bag of the first k terms, sorted. -/
def bagTo (b : List Term) (k : Nat) : List Term := (b.take k).foldl (fun acc t => ins t acc) []

theorem bagTo_succ (b : List Term) (k : Nat) (t : Term) (h : b[k]? = some t) : bagTo b (k + 1) = ins t (bagTo b k) := by
  unfold bagTo
  rw [List.take_add_one, h, List.foldl_append]; rfl

theorem bagTo_length (b : List Term) (k : Nat) (h : k ≤ b.length) : (bagTo b k).length = k := by
  induction k with
  | zero => rfl
  | succ k ih =>
    obtain ⟨t, ht⟩ : ∃ t, b[k]? = some t := ⟨b[k], List.getElem?_eq_getElem h⟩
    rw [bagTo_succ b k t ht, ins_length, ih (by omega)]

theorem bagTo_all (b : List Term) (k : Nat) (h : k = b.length) : bagTo b k = sortBag b := by
  unfold bagTo sortBag
  rw [List.take_of_length_le (by omega)]

theorem bagTo_mem (b : List Term) (k : Nat) (u : Term) (h : u ∈ bagTo b k) : u ∈ b := by
  have := (foldl_ins (b.take k) [] List.Pairwise.nil).2.mem_iff.1 h
  exact List.mem_of_mem_take (by simpa using this)

/-- What holds at the head of the loop over the terms of a bag. -/
structure BagRel (F : Nat → Prop) (w : World) (b : List Term) (wr : World) (k g1 d1 g2 d2 : Nat) (xs : List Value) : Prop where
  le : k ≤ b.length
  own1 : wr.ownsRow (w.heap.size + 1) 9 1 (.slice (some ⟨g1, 0, none⟩) k d1) k ((bagTo b k).map fun u => st (text u))
  own2 : wr.ownsRow (w.heap.size + 1) 84 2 (.slice (some ⟨g2, 0, none⟩) k d2) k xs
  kd1 : k ≤ d1
  kd2 : k ≤ d2
  rep : RepFF F w (ofTerms (bagTo b k)) xs
  ret : Blk wr w.heap.size 84 #[.string ⟨#[]⟩, .slice none 0 0]
  below : Below w.heap.size w wr

set_option maxHeartbeats 1600000 in
set_option maxRecDepth 100000 in
theorem l1Bag_any : BagSaid := by
  intro F ad c m b xs0 w hbl had hsp hbc hcm hok hlen hc hr
  obtain ⟨i0, hi0, hz0, hz1, hz2⟩ := info_parts tree_info
  obtain ⟨i1, hi1, hy0, hy1, hy2⟩ := info_parts str_info
  have HC := Lib.hid hc
  have HR := Lib.hid hr
  have HO := Lib.hid ((oks_mem m b).1 hok)
  have HLEN := Lib.hid hlen
  unfold maxLen at hcm
  obtain ⟨ab, ao, asp⟩ := ad
  subst hsp
  clear hc hr hok hlen
  go_enter Tryz.func102, Tryz.ntmps102
  go_wp2_with fail
  go_loopw [3, 4, 5] (fun t1 t2 i wr => ∃ k g1 d1 g2 d2 xs, i = .int .i64 ((k : Nat) : Int) ∧ t1 = .slice (some ⟨g1, 0, none⟩) k d1 ∧ t2 = .slice (some ⟨g2, 0, none⟩) k d2 ∧ BagRel F w b wr k g1 d1 g2 d2 xs) (fun _ _ i _ => b.length - (intOf i).toNat)
  case atStart =>
    refine ⟨0, w.heap.size + 1, 0, w.heap.size + 2, 0, [], rfl, rfl, rfl, Nat.zero_le _, ?_, ?_, Nat.le_refl _, Nat.le_refl _, ?_, ?_, ?_⟩
    · exact own_of_blk ((blk_second w _ 9 #[]).alloc _) (Nat.le_refl _) rfl (by decide) rfl
    · refine own_of_blk (e := 84) (cs := #[]) ?_ (by omega) rfl (by decide) rfl
      have := Blk.new ((w.alloc (.cells #[.string ⟨#[]⟩, .slice none 0 0] 84)).alloc (.cells #[] 9)) 84 #[]
      simpa using this
    · simp [bagTo, ofTerms, RepFF]
    · exact ((Blk.new _ _ _).alloc _).alloc _
    · exact (below_two w _ _).alloc (by simp; omega) _
  case round =>
    obtain ⟨k, g1, d1, g2, d2, xs, rfl, rfl, rfl, hrel⟩ := hrel
    obtain ⟨wo, rfl⟩ : ∃ wo : World, wo = wr := ⟨_, rfl⟩
    have hk := hrel.le
    by_cases hlt : k < b.length
    · obtain ⟨u, hu⟩ : ∃ u, b[k]? = some u := ⟨b[k], List.getElem?_eq_getElem hlt⟩
      obtain ⟨x, y, e1, e2, hru⟩ := RepFF.at _ xs0 k (ofTerm u) HR.out (ofTerms_at b k u hu)
      have hKr : Keeps w wo := below_keeps hrel.below
      have HC1 := HC.out (k * 2) x e1
      have HC2 := HC.out (k * 2 + 1) y e2
      rw [Addr.add_lit] at HC1 HC2
      rw [← Nat.add_assoc] at HC2
      have c1 := hKr _ _ HC1
      have c2 := hKr _ _ HC2
      have hum : u ∈ b := List.mem_of_getElem? hu
      have hsw : w.heap.size + 1 ≤ wo.heap.size := hrel.ret.lt
      obtain ⟨ux, uA, un, uc, hxy⟩ := repS_shape (RepSF.rep _ _ hru)
      simp at hxy
      obtain ⟨rfl, rfl⟩ := hxy
      have HU := Lib.hid hru
      have HREL := Lib.hid hrel
      have HUB := Lib.hid hu
      have htl := HLEN.out u hum
      have HOK := Lib.hid (HO.out u hum)
      clear hrel hru e1 e2 hu hum
      go_wp2_with fail
      refine (l1Text_any _ (ofTerm u) _ wo (Nat.le_refl _) ((RepSF.rep _ _ HU.out).keep hKr) (wf_ofTerm m u HOK.out) (by show (text u).length ≤ _; omega)).mono ?_
      rintro e w4 ⟨rfl, hb4⟩
      rw [show textT (ofTerm u) = text u from rfl, st_eq]
      have hb4' := Lib.hid hb4
      have hsz4 : wo.heap.size ≤ w4.heap.size := hb4.size
      have hown1 : w4.ownsRow (w.heap.size + 1) 9 1 (.slice (some ⟨g1, 0, none⟩) k d1) k ((bagTo b k).map fun u => st (text u)) :=
        HREL.out.own1.kept (row := none) ⟨hb4.os, hb4.tape, hb4.output, hb4.size, fun q hq _ => hb4.block q hq⟩ (by simp [Value.ownBlock])
      have HOWN1 := Lib.hid hown1
      have hkl := bagTo_length b k hk
      have HKL := Lib.hid hkl
      have hcell : ∀ (j : Nat) (z : Term), (bagTo b k)[j]? = some z → w4.cell? ⟨g1, j, none⟩ = some (.string ⟨(text z).toArray⟩) := by
        intro j z hz
        have := hown1.cells (g := g1) rfl j (st (text z)) (by rw [List.getElem?_map, hz]; rfl)
        rw [Addr.add_lit, Nat.zero_add] at this
        exact this
      have HCELL := Lib.hid hcell
      have C1 := Lib.hid (HC1)
      have C2 := Lib.hid (HC2)
      clear hb4 hown1 hkl hcell c1 c2 HC1 HC2
      go_wp2_with fail
      go_loopw [7] (fun v wq => ∃ j : Nat, j ≤ k ∧ v = .int .i64 j ∧ Hid (∀ i, i < j → ∀ z, (bagTo b k)[i]? = some z → ltB (text u) (text z) = false) ∧ Drew w4 wq) (fun v _ => k - (intOf v).toNat)
      case atStart => exact ⟨0, Nat.zero_le _, rfl, fun i hi => absurd hi (by omega), Drew.refl _⟩
      case round =>
        obtain ⟨j, hj, rfl, hall, hD⟩ := hrel
        by_cases hjk : j < k
        · obtain ⟨z, hz⟩ : ∃ z, (bagTo b k)[j]? = some z := ⟨(bagTo b k)[j]'(by rw [HKL.out]; exact hjk), List.getElem?_eq_getElem _⟩
          have cz : wr.cell? ⟨g1, j, none⟩ = some (.string ⟨(text z).toArray⟩) := (drew_cell hD).trans (HCELL.out j z hz)
          have hzl := HLEN.out z (bagTo_mem b k z (List.mem_of_getElem? hz))
          have HZ := Lib.hid hz
          clear hz
          go_wp2_with fail
          refine (l1Less_any ⟨(text u).toArray⟩ ⟨(text z).toArray⟩ _ (by simp [ByteArray.size, maxLen]; omega) (by simp [ByteArray.size, maxLen]; omega)).mono ?_
          rintro e w5 ⟨rfl, hD5⟩
          have hDD := Drew.trans hD hD5
          rw [show ltB (⟨(text u).toArray⟩ : ByteArray).data.toList (⟨(text z).toArray⟩ : ByteArray).data.toList = ltB (text u) (text z) from rfl]
          cases hl : ltB (text u) (text z)
          · have HLL := Lib.hid hl
            clear hl
            go_wp2_with fail
            go_roundw
            case rel =>
              refine ⟨j + 1, by omega, by go_num, ?_, hDD⟩
              intro i hi q hq
              by_cases hij : i = j
              · subst hij
                rw [HZ.out] at hq
                injection hq with hq
                rw [← hq]; exact HLL.out
              · exact hall.out i (by omega) q hq
            case measure => simp [intOf]; omega
          · have HINS : Hid (bagTo b (k + 1) = (bagTo b k).take j ++ u :: (bagTo b k).drop j) := by
              show _ = _
              rw [bagTo_succ b k u HUB.out]
              exact ins_at u _ j (by rw [HKL.out]; omega) hall.out (.inr ⟨z, HZ.out, hl⟩)
            clear hl
            have HDQ := Lib.hid hDD
            clear hDD hD hD5 cz
            have hkd1 := HREL.out.kd1
            have hkd2 := HREL.out.kd2
            have hjd1 : j ≤ d1 := by omega
            have hjd2 : j ≤ d2 := by omega
            have hq0 : w4.heap.size ≤ w5.heap.size := (HDQ.out.below 0).size
            have HRT : Hid (∀ W, Below w5.heap.size w5 W → Reads W w5.heap.size 1 (some ⟨g1, 0, none⟩) j (((bagTo b k).map fun u => st (text u)).take j)) := by
              intro W hW
              simpa using reads_take HOWN1.out HDQ.out hW hj
            have HRD : Hid (∀ W, Below w5.heap.size w5 W → Reads W w5.heap.size 1 (if d1 = j then some ⟨g1, 0, none⟩ else some ⟨g1, j, none⟩) (k - j) (((bagTo b k).map fun u => st (text u)).drop j)) := by
              intro W hW
              simpa using reads_drop HOWN1.out HDQ.out hW hj hkd1
            have HO1 : Hid (∀ u ∈ ((bagTo b k).map fun u => st (text u)).take j, u.oneCell' = true) := by
              intro u hu
              obtain ⟨y, _, rfl⟩ := List.mem_map.1 (List.mem_of_mem_take hu)
              rfl
            have HO2 : Hid (∀ u ∈ ((bagTo b k).map fun u => st (text u)).drop j, u.oneCell' = true) := by
              intro u hu
              obtain ⟨y, _, rfl⟩ := List.mem_map.1 (List.mem_of_mem_drop hu)
              rfl
            have HOneC : Hid (∀ q ∈ [Value.string ⟨(text u).toArray⟩], q.oneCell' = true) := by
              intro q hq
              simp at hq; subst hq; rfl
            go_upto_region 10 with fail
            go_cut [3] from 36 to 47 (fun s3 wx => ∃ g3 d3, s3 = .slice (some ⟨g3, 0, none⟩) (k + 1) d3 ∧ Hid (k + 1 ≤ d3 ∧ wx.ownsRow w5.heap.size 9 1 s3 (k + 1) ((bagTo b (k + 1)).map fun u => st (text u)) ∧ Below w5.heap.size w5 wx))
            case first =>
              go_region_law (first
                | (refine step_append_any _ rfl (.tmp 36) (.tmp 39) 22 rfl w5.heap.size 9 i1 (.string ⟨#[]⟩) 1 16 Tryz.underlying22 hi1 hy0 hy1 hy2 rfl (Nat.succ_pos 0) (.slice (some ⟨w5.heap.size, 0, none⟩) 0 0) 0 [] (by simp [Act.eval, Act.put]; try omega) (own_of_blk (Blk.new w5.drew 9 #[]) (Nat.le_refl _) rfl (by decide) rfl) w5.heap.size (some ⟨g1, 0, none⟩) j d1 (((bagTo b k).map fun u => st (text u)).take (j)) (by simp [Act.eval, Act.put]; try omega) (HRT.out _ (by go_grown)) HO1.out (by unfold maxLen; omega) (by omega) (by simp; try omega) ?_; intro v1 w1 hown1 hg1 hat1; have hB1 : Below w5.heap.size w5 w1 := Below.grown (by go_grown) hg1 (by simp; try omega) (by intro q hq; simp [Value.ownBlock] at hq; omega))
                | (refine step_append_any _ rfl (.tmp 36) (.tmp 39) 22 rfl w5.heap.size 9 i1 (.string ⟨#[]⟩) 1 16 Tryz.underlying22 hi1 hy0 hy1 hy2 rfl (Nat.succ_pos 0) (.slice (some ⟨w5.heap.size, 0, none⟩) 0 0) 0 [] (by simp [Act.eval, Act.put]; try omega) (own_of_blk ((Blk.new w5.drew 9 #[]).alloc _) (Nat.le_refl _) rfl (by decide) rfl) w5.heap.size (some ⟨g1, 0, none⟩) j d1 (((bagTo b k).map fun u => st (text u)).take (j)) (by simp [Act.eval, Act.put]; try omega) (HRT.out _ (by go_grown)) HO1.out (by unfold maxLen; omega) (by omega) (by simp; try omega) ?_; intro v1 w1 hown1 hg1 hat1; have hB1 : Below w5.heap.size w5 w1 := Below.grown (by go_grown) hg1 (by simp; try omega) (by intro q hq; simp [Value.ownBlock] at hq; omega); have hX6 : Blk w1 (w5.heap.size + 1) 9 #[.string ⟨(text u).toArray⟩] := (blk_second w5.drew _ 9 #[.string ⟨(text u).toArray⟩]).grown hg1 (by simp [Value.ownBlock]))
                | (refine step_append_any _ rfl (.tmp 36) (.tmp 39) 22 rfl w5.heap.size 9 i1 (.string ⟨#[]⟩) 1 16 Tryz.underlying22 hi1 hy0 hy1 hy2 rfl (Nat.succ_pos 0) (.slice (some ⟨(w5.heap.size + 1), 0, none⟩) 0 0) 0 [] (by simp [Act.eval, Act.put]; try omega) (own_of_blk (blk_second w5.drew _ 9 #[]) (by omega) rfl (by decide) rfl) w5.heap.size (some ⟨g1, 0, none⟩) j d1 (((bagTo b k).map fun u => st (text u)).take (j)) (by simp [Act.eval, Act.put]; try omega) (HRT.out _ (by go_grown)) HO1.out (by unfold maxLen; omega) (by omega) (by simp; try omega) ?_; intro v1 w1 hown1 hg1 hat1; have hB1 : Below w5.heap.size w5 w1 := Below.grown (by go_grown) hg1 (by simp; try omega) (by intro q hq; simp [Value.ownBlock] at hq; omega); have hX6 : Blk w1 w5.heap.size 9 #[.string ⟨(text u).toArray⟩] := ((Blk.new w5.drew 9 #[.string ⟨(text u).toArray⟩]).alloc _).grown hg1 (by simp [Value.ownBlock]))
                | (refine step_append_any _ rfl (.tmp 40) (.tmp 42) 22 rfl w5.heap.size 9 i1 (.string ⟨#[]⟩) 1 16 Tryz.underlying22 hi1 hy0 hy1 hy2 rfl (Nat.succ_pos 0) v1 (0 + j) ([] ++ ((bagTo b k).map fun u => st (text u)).take (j)) (by simp [Act.eval, Act.put]; try omega) (hown1.alloc _) _ (some ⟨w1.heap.size, 0, none⟩) 1 1 [.string ⟨(text u).toArray⟩] (by simp [Act.eval, Act.put]; try omega) (reads_blk (Blk.new w1 9 #[.string ⟨(text u).toArray⟩]) rfl rfl) HOneC.out (by unfold maxLen; omega) (by omega) (by have := hB1.size; simp; try omega) ?_; intro v2 w2 hown2 hg2 hat2; have hB2 : Below w5.heap.size w5 w2 := Below.grown (by first | exact hB1 | exact hB1.alloc hB1.size _) hg2 (by have := hB1.size; simp; try omega) (by intro q hq; exact (own_block_lt hown1 q hq).1))
                | (refine step_append_any _ rfl (.tmp 40) (.tmp 42) 22 rfl w5.heap.size 9 i1 (.string ⟨#[]⟩) 1 16 Tryz.underlying22 hi1 hy0 hy1 hy2 rfl (Nat.succ_pos 0) v1 (0 + j) ([] ++ ((bagTo b k).map fun u => st (text u)).take (j)) (by simp [Act.eval, Act.put]; try omega) hown1 _ (some ⟨(w5.heap.size + 1), 0, none⟩) 1 1 [.string ⟨(text u).toArray⟩] (by simp [Act.eval, Act.put]; try omega) (reads_blk hX6 rfl rfl) HOneC.out (by unfold maxLen; omega) (by omega) (by have := hB1.size; simp; try omega) ?_; intro v2 w2 hown2 hg2 hat2; have hB2 : Below w5.heap.size w5 w2 := Below.grown (by first | exact hB1 | exact hB1.alloc hB1.size _) hg2 (by have := hB1.size; simp; try omega) (by intro q hq; exact (own_block_lt hown1 q hq).1))
                | (refine step_append_any _ rfl (.tmp 40) (.tmp 42) 22 rfl w5.heap.size 9 i1 (.string ⟨#[]⟩) 1 16 Tryz.underlying22 hi1 hy0 hy1 hy2 rfl (Nat.succ_pos 0) v1 (0 + j) ([] ++ ((bagTo b k).map fun u => st (text u)).take (j)) (by simp [Act.eval, Act.put]; try omega) hown1 _ (some ⟨w5.heap.size, 0, none⟩) 1 1 [.string ⟨(text u).toArray⟩] (by simp [Act.eval, Act.put]; try omega) (reads_blk hX6 rfl rfl) HOneC.out (by unfold maxLen; omega) (by omega) (by have := hB1.size; simp; try omega) ?_; intro v2 w2 hown2 hg2 hat2; have hB2 : Below w5.heap.size w5 w2 := Below.grown (by first | exact hB1 | exact hB1.alloc hB1.size _) hg2 (by have := hB1.size; simp; try omega) (by intro q hq; exact (own_block_lt hown1 q hq).1))
                | (refine step_append_any _ rfl (.tmp 43) (.tmp 46) 22 rfl w5.heap.size 9 i1 (.string ⟨#[]⟩) 1 16 Tryz.underlying22 hi1 hy0 hy1 hy2 rfl (Nat.succ_pos 0) v2 (0 + j + 1) ([] ++ ((bagTo b k).map fun u => st (text u)).take (j) ++ [.string ⟨(text u).toArray⟩]) (by simp [Act.eval, Act.put]; try omega) hown2 w5.heap.size (if d1 = j then some ⟨g1, 0, none⟩ else some ⟨g1, j, none⟩) (k - j) (d1 - j) (((bagTo b k).map fun u => st (text u)).drop (j)) (by simp [Act.eval, Act.put]; try omega) (HRD.out _ hB2) HO2.out (by unfold maxLen; omega) (by omega) hB2.size ?_; intro v3 w3 hown3 hg3 hat3; have hB3 : Below w5.heap.size w5 w3 := Below.grown hB2 hg3 hB2.size (by intro q hq; exact (own_block_lt hown2 q hq).1)))
              all_goals
                go_wp2_with fail
                go_meet
                case rel =>
                  obtain ⟨g3, d3, hv3, hd3, ho3⟩ := own_done hown3 hj (ts := (bagTo b (k + 1)).map fun u => st (text u)) (by rw [HINS.out]; simp [List.map_take, List.map_drop]; rfl)
                  exact ⟨g3, d3, hv3, hd3, ho3, hB3⟩
            case rest =>
              obtain ⟨g3, d3, rfl, hcut⟩ := hcut
              have HCUT := Lib.hid hcut
              clear hcut HRT HRD HO1 HO2 HOneC
              have hwc : w5.heap.size ≤ wc.heap.size := HCUT.out.out.2.2.size
              have hBw : Below w4.heap.size w4 wc := (HDQ.out.below _).trans (HCUT.out.out.2.2.mono hq0)
              have hBo : Below wo.heap.size wo wc := hb4'.out.trans (hBw.mono hsz4)
              have hBW : Below w.heap.size w wc := HREL.out.below.trans (hBo.mono (by omega))
              have hown2 : wc.ownsRow (w.heap.size + 1) 84 2 (.slice (some ⟨g2, 0, none⟩) k d2) k xs :=
                HREL.out.own2.kept (row := none) ⟨hBo.os, hBo.tape, hBo.output, hBo.size, fun q hq _ => hBo.block q hq⟩ (by simp [Value.ownBlock])
              have HOWN2 := Lib.hid hown2
              have hret := HREL.out.ret.below hBo HREL.out.ret.lt
              have HRET := Lib.hid hret
              have k1 : wc.cell? ⟨ab, ao + k * 2, none⟩ = some (.string ⟨ux.toArray⟩) := below_keeps hBW _ _ C1.out
              have k2 : wc.cell? ⟨ab, ao + k * 2 + 1, none⟩ = some (.slice uA un uc) := below_keeps hBW _ _ C2.out
              have k1a := cell_alloc k1
              have k2a := cell_alloc k2
              have hab : ab + 1 ≤ wc.heap.size := World.block_lt_of_cell? wc _ k1
              have HBW := Lib.hid hBW
              clear hBw hBo hBW hown2 hret
              have HRT : Hid (∀ W, Below wc.heap.size wc W → Reads W wc.heap.size 2 (some ⟨g2, 0, none⟩) j (xs.take (j * 2))) := fun W hW => reads_take HOWN2.out (Drew.refl _) hW hj
              have HRD : Hid (∀ W, Below wc.heap.size wc W → Reads W wc.heap.size 2 (if d2 = j then some ⟨g2, 0, none⟩ else some ⟨g2, j * 2, none⟩) (k - j) (xs.drop (j * 2))) := fun W hW => reads_drop HOWN2.out (Drew.refl _) hW hj hkd2
              have hone := repF_one _ _ (RepFF.rep _ _ HREL.out.rep)
              have HO1 : Hid (∀ u ∈ xs.take (j * 2), u.oneCell' = true) := fun u hu => hone u (List.mem_of_mem_take hu)
              have HO2 : Hid (∀ u ∈ xs.drop (j * 2), u.oneCell' = true) := fun u hu => hone u (List.mem_of_mem_drop hu)
              have HOneC : Hid (∀ q ∈ [Value.string ⟨ux.toArray⟩, Value.slice uA un uc], q.oneCell' = true) := by
                intro q hq
                simp at hq
                rcases hq with rfl | rfl <;> rfl
              clear hone
              go_upto_region 11 with fail
              go_region_law (first
                  | (refine step_append_any _ rfl (.tmp 48) (.tmp 51) 82 rfl wc.heap.size 84 i0 (.agg #[.string ⟨#[]⟩, .slice none 0 0]) 2 40 Tryz.underlying82 hi0 hz0 hz1 hz2 rfl (Nat.succ_pos 1) (.slice (some ⟨wc.heap.size, 0, none⟩) 0 0) 0 [] (by simp [Act.eval, Act.put]; try omega) (own_of_blk (Blk.new wc.drew 84 #[]) (Nat.le_refl _) rfl (by decide) rfl) wc.heap.size (some ⟨g2, 0, none⟩) j d2 ((xs).take (j * 2)) (by simp [Act.eval, Act.put]; try omega) (HRT.out _ (by go_grown)) HO1.out (by unfold maxLen; omega) (by omega) (by simp; try omega) ?_; intro v1 w1 hown1 hg1 hat1; have k1w : w1.cell? ⟨ab, ao + k * 2, none⟩ = some (.string ⟨ux.toArray⟩) := (World.cell?_of_block (hg1.block ab (by simp; omega) (by simp [Value.ownBlock]; omega))).trans (by first | exact cell_alloc k1 _ | exact cell_alloc (cell_alloc k1 _) _); have k2w : w1.cell? ⟨ab, ao + k * 2 + 1, none⟩ = some (.slice uA un uc) := (World.cell?_of_block (hg1.block ab (by simp; omega) (by simp [Value.ownBlock]; omega))).trans (by first | exact cell_alloc k2 _ | exact cell_alloc (cell_alloc k2 _) _); have hB1 : Below wc.heap.size wc w1 := Below.grown (by go_grown) hg1 (by simp; try omega) (by intro q hq; simp [Value.ownBlock] at hq; omega))
                  | (refine step_append_any _ rfl (.tmp 48) (.tmp 51) 82 rfl wc.heap.size 84 i0 (.agg #[.string ⟨#[]⟩, .slice none 0 0]) 2 40 Tryz.underlying82 hi0 hz0 hz1 hz2 rfl (Nat.succ_pos 1) (.slice (some ⟨wc.heap.size, 0, none⟩) 0 0) 0 [] (by simp [Act.eval, Act.put]; try omega) (own_of_blk ((Blk.new wc.drew 84 #[]).alloc _) (Nat.le_refl _) rfl (by decide) rfl) wc.heap.size (some ⟨g2, 0, none⟩) j d2 ((xs).take (j * 2)) (by simp [Act.eval, Act.put]; try omega) (HRT.out _ (by go_grown)) HO1.out (by unfold maxLen; omega) (by omega) (by simp; try omega) ?_; intro v1 w1 hown1 hg1 hat1; have k1w : w1.cell? ⟨ab, ao + k * 2, none⟩ = some (.string ⟨ux.toArray⟩) := (World.cell?_of_block (hg1.block ab (by simp; omega) (by simp [Value.ownBlock]; omega))).trans (by first | exact cell_alloc k1 _ | exact cell_alloc (cell_alloc k1 _) _); have k2w : w1.cell? ⟨ab, ao + k * 2 + 1, none⟩ = some (.slice uA un uc) := (World.cell?_of_block (hg1.block ab (by simp; omega) (by simp [Value.ownBlock]; omega))).trans (by first | exact cell_alloc k2 _ | exact cell_alloc (cell_alloc k2 _) _); have hB1 : Below wc.heap.size wc w1 := Below.grown (by go_grown) hg1 (by simp; try omega) (by intro q hq; simp [Value.ownBlock] at hq; omega); have hX6 : Blk w1 (wc.heap.size + 1) 84 #[.string ⟨ux.toArray⟩, .slice uA un uc] := (blk_second wc.drew _ 84 #[.string ⟨ux.toArray⟩, .slice uA un uc]).grown hg1 (by simp [Value.ownBlock]))
                  | (refine step_append_any _ rfl (.tmp 48) (.tmp 51) 82 rfl wc.heap.size 84 i0 (.agg #[.string ⟨#[]⟩, .slice none 0 0]) 2 40 Tryz.underlying82 hi0 hz0 hz1 hz2 rfl (Nat.succ_pos 1) (.slice (some ⟨(wc.heap.size + 1), 0, none⟩) 0 0) 0 [] (by simp [Act.eval, Act.put]; try omega) (own_of_blk (blk_second wc.drew _ 84 #[]) (by omega) rfl (by decide) rfl) wc.heap.size (some ⟨g2, 0, none⟩) j d2 ((xs).take (j * 2)) (by simp [Act.eval, Act.put]; try omega) (HRT.out _ (by go_grown)) HO1.out (by unfold maxLen; omega) (by omega) (by simp; try omega) ?_; intro v1 w1 hown1 hg1 hat1; have k1w : w1.cell? ⟨ab, ao + k * 2, none⟩ = some (.string ⟨ux.toArray⟩) := (World.cell?_of_block (hg1.block ab (by simp; omega) (by simp [Value.ownBlock]; omega))).trans (by first | exact cell_alloc k1 _ | exact cell_alloc (cell_alloc k1 _) _); have k2w : w1.cell? ⟨ab, ao + k * 2 + 1, none⟩ = some (.slice uA un uc) := (World.cell?_of_block (hg1.block ab (by simp; omega) (by simp [Value.ownBlock]; omega))).trans (by first | exact cell_alloc k2 _ | exact cell_alloc (cell_alloc k2 _) _); have hB1 : Below wc.heap.size wc w1 := Below.grown (by go_grown) hg1 (by simp; try omega) (by intro q hq; simp [Value.ownBlock] at hq; omega); have hX6 : Blk w1 wc.heap.size 84 #[.string ⟨ux.toArray⟩, .slice uA un uc] := ((Blk.new wc.drew 84 #[.string ⟨ux.toArray⟩, .slice uA un uc]).alloc _).grown hg1 (by simp [Value.ownBlock]))
                  | (refine step_append_any _ rfl (.tmp 52) (.tmp 57) 82 rfl wc.heap.size 84 i0 (.agg #[.string ⟨#[]⟩, .slice none 0 0]) 2 40 Tryz.underlying82 hi0 hz0 hz1 hz2 rfl (Nat.succ_pos 1) v1 (0 + j) ([] ++ (xs).take (j * 2)) (by simp [Act.eval, Act.put]; try omega) (hown1.alloc _) _ (some ⟨w1.heap.size, 0, none⟩) 1 1 [.string ⟨ux.toArray⟩, .slice uA un uc] (by simp [Act.eval, Act.put]; try omega) (reads_blk (Blk.new w1 84 #[.string ⟨ux.toArray⟩, .slice uA un uc]) rfl rfl) HOneC.out (by unfold maxLen; omega) (by omega) (by have := hB1.size; simp; try omega) ?_; intro v2 w2 hown2 hg2 hat2; have hB2 : Below wc.heap.size wc w2 := Below.grown (by first | exact hB1 | exact hB1.alloc hB1.size _) hg2 (by have := hB1.size; simp; try omega) (by intro q hq; exact (own_block_lt hown1 q hq).1))
                  | (refine step_append_any _ rfl (.tmp 52) (.tmp 57) 82 rfl wc.heap.size 84 i0 (.agg #[.string ⟨#[]⟩, .slice none 0 0]) 2 40 Tryz.underlying82 hi0 hz0 hz1 hz2 rfl (Nat.succ_pos 1) v1 (0 + j) ([] ++ (xs).take (j * 2)) (by simp [Act.eval, Act.put]; try omega) hown1 _ (some ⟨(wc.heap.size + 1), 0, none⟩) 1 1 [.string ⟨ux.toArray⟩, .slice uA un uc] (by simp [Act.eval, Act.put]; try omega) (reads_blk hX6 rfl rfl) HOneC.out (by unfold maxLen; omega) (by omega) (by have := hB1.size; simp; try omega) ?_; intro v2 w2 hown2 hg2 hat2; have hB2 : Below wc.heap.size wc w2 := Below.grown (by first | exact hB1 | exact hB1.alloc hB1.size _) hg2 (by have := hB1.size; simp; try omega) (by intro q hq; exact (own_block_lt hown1 q hq).1))
                  | (refine step_append_any _ rfl (.tmp 52) (.tmp 57) 82 rfl wc.heap.size 84 i0 (.agg #[.string ⟨#[]⟩, .slice none 0 0]) 2 40 Tryz.underlying82 hi0 hz0 hz1 hz2 rfl (Nat.succ_pos 1) v1 (0 + j) ([] ++ (xs).take (j * 2)) (by simp [Act.eval, Act.put]; try omega) hown1 _ (some ⟨wc.heap.size, 0, none⟩) 1 1 [.string ⟨ux.toArray⟩, .slice uA un uc] (by simp [Act.eval, Act.put]; try omega) (reads_blk hX6 rfl rfl) HOneC.out (by unfold maxLen; omega) (by omega) (by have := hB1.size; simp; try omega) ?_; intro v2 w2 hown2 hg2 hat2; have hB2 : Below wc.heap.size wc w2 := Below.grown (by first | exact hB1 | exact hB1.alloc hB1.size _) hg2 (by have := hB1.size; simp; try omega) (by intro q hq; exact (own_block_lt hown1 q hq).1))
                  | (refine step_append_any _ rfl (.tmp 58) (.tmp 61) 82 rfl wc.heap.size 84 i0 (.agg #[.string ⟨#[]⟩, .slice none 0 0]) 2 40 Tryz.underlying82 hi0 hz0 hz1 hz2 rfl (Nat.succ_pos 1) v2 (0 + j + 1) ([] ++ (xs).take (j * 2) ++ [.string ⟨ux.toArray⟩, .slice uA un uc]) (by simp [Act.eval, Act.put]; try omega) hown2 wc.heap.size (if d2 = j then some ⟨g2, 0, none⟩ else some ⟨g2, j * 2, none⟩) (k - j) (d2 - j) ((xs).drop (j * 2)) (by simp [Act.eval, Act.put]; try omega) (HRD.out _ hB2) HO2.out (by unfold maxLen; omega) (by omega) hB2.size ?_; intro v3 w3 hown3 hg3 hat3; have hB3 : Below wc.heap.size wc w3 := Below.grown hB2 hg3 hB2.size (by intro q hq; exact (own_block_lt hown2 q hq).1)))
              all_goals
                obtain ⟨g4, d4, rfl, hd4, ho4⟩ := own_done hown3 hj rfl
                have hwW : w.heap.size + 1 ≤ wc.heap.size := HRET.out.lt
                have hrel' : BagRel F w b w3 (k + 1) g3 d3 g4 d4 (xs.take (j * 2) ++ [.string ⟨ux.toArray⟩, .slice uA un uc] ++ xs.drop (j * 2)) := by
                  refine ⟨by omega, ?_, own_mono ho4 hwW, HCUT.out.out.1, hd4, ?_, HRET.out.below hB3 (by omega), HBW.out.trans (hB3.mono (by omega))⟩
                  · have hh := HCUT.out.out.2.1
                    have hg3 := (own_block_lt hh g3 rfl).2
                    refine own_mono (hh.kept (row := none) ⟨hB3.os, hB3.tape, hB3.output, hB3.size, fun q hq _ => hB3.block q hq⟩ (by simp [Value.ownBlock])) (by omega)
                  · rw [HINS.out, ofTerms_append, ofTerms]
                    have e1 : ofTerms ((bagTo b k).take j) = (ofTerms (bagTo b k)).take j := by rw [ofTerms_map, ofTerms_map, List.map_take]
                    have e2 : ofTerms ((bagTo b k).drop j) = (ofTerms (bagTo b k)).drop j := by rw [ofTerms_map, ofTerms_map, List.map_drop]
                    rw [e1, e2]
                    have := RepFF.append _ _ _ _ (RepFF.append _ _ _ _ (RepFF.take _ _ j HREL.out.rep) (RepFF.one HU.out)) (RepFF.drop _ _ j HREL.out.rep)
                    simpa using this
                have HREL2 := Lib.hid hrel'
                clear hrel' hown3 hg3 hat3 hB3 hown2 hg2 hat2 hB2 hown1 hg1 hat1 hB1 ho4
                go_wp2_with fail
                go_roundw
                case rel => exact ⟨k + 1, g3, d3, g4, d4, _, by go_num, rfl, rfl, HREL2.out⟩
                case measure => simp [intOf]; omega
        · have HINS : Hid (bagTo b (k + 1) = (bagTo b k).take j ++ u :: (bagTo b k).drop j) := by
            show _ = _
            rw [bagTo_succ b k u HUB.out]
            exact ins_at u _ j (by rw [HKL.out]; omega) hall.out (.inl (by rw [HKL.out]; omega))
          have hdum : True := trivial
          have hjf : decide (j < k) = false := by simp; omega
          have hjd0 : j ≤ d1 := by have := HREL.out.kd1; omega
          rcases Nat.eq_or_lt_of_le hjd0 with hee | hlt1
          · obtain rfl : j = d1 := hee
            go_wp2_with fail
            have HDQ := Lib.hid hD
            clear hD hdum
            have hkd1 := HREL.out.kd1
            have hkd2 := HREL.out.kd2
            have hjd2 : j ≤ d2 := by omega
            have hq0 : w4.heap.size ≤ wr.heap.size := (HDQ.out.below 0).size
            have HRT : Hid (∀ W, Below wr.heap.size wr W → Reads W wr.heap.size 1 (some ⟨g1, 0, none⟩) j (((bagTo b k).map fun u => st (text u)).take j)) := by
              intro W hW
              simpa using reads_take HOWN1.out HDQ.out hW hj
            have HRD : Hid (∀ W, Below wr.heap.size wr W → Reads W wr.heap.size 1 (if j = j then some ⟨g1, 0, none⟩ else some ⟨g1, j, none⟩) (k - j) (((bagTo b k).map fun u => st (text u)).drop j)) := by
              intro W hW
              simpa using reads_drop HOWN1.out HDQ.out hW hj hkd1
            have HO1 : Hid (∀ u ∈ ((bagTo b k).map fun u => st (text u)).take j, u.oneCell' = true) := by
              intro u hu
              obtain ⟨y, _, rfl⟩ := List.mem_map.1 (List.mem_of_mem_take hu)
              rfl
            have HO2 : Hid (∀ u ∈ ((bagTo b k).map fun u => st (text u)).drop j, u.oneCell' = true) := by
              intro u hu
              obtain ⟨y, _, rfl⟩ := List.mem_map.1 (List.mem_of_mem_drop hu)
              rfl
            have HOneC : Hid (∀ q ∈ [Value.string ⟨(text u).toArray⟩], q.oneCell' = true) := by
              intro q hq
              simp at hq; subst hq; rfl
            go_upto_region 10 with fail
            go_cut [3] from 36 to 47 (fun s3 wx => ∃ g3 d3, s3 = .slice (some ⟨g3, 0, none⟩) (k + 1) d3 ∧ Hid (k + 1 ≤ d3 ∧ wx.ownsRow wr.heap.size 9 1 s3 (k + 1) ((bagTo b (k + 1)).map fun u => st (text u)) ∧ Below wr.heap.size wr wx))
            case first =>
              go_region_law (first
                | (refine step_append_any _ rfl (.tmp 36) (.tmp 39) 22 rfl wr.heap.size 9 i1 (.string ⟨#[]⟩) 1 16 Tryz.underlying22 hi1 hy0 hy1 hy2 rfl (Nat.succ_pos 0) (.slice (some ⟨wr.heap.size, 0, none⟩) 0 0) 0 [] (by simp [Act.eval, Act.put]; try omega) (own_of_blk (Blk.new wr.drew 9 #[]) (Nat.le_refl _) rfl (by decide) rfl) wr.heap.size (some ⟨g1, 0, none⟩) j j (((bagTo b k).map fun u => st (text u)).take (j)) (by simp [Act.eval, Act.put]; try omega) (HRT.out _ (by go_grown)) HO1.out (by unfold maxLen; omega) (by omega) (by simp; try omega) ?_; intro v1 w1 hown1 hg1 hat1; have hB1 : Below wr.heap.size wr w1 := Below.grown (by go_grown) hg1 (by simp; try omega) (by intro q hq; simp [Value.ownBlock] at hq; omega))
                | (refine step_append_any _ rfl (.tmp 36) (.tmp 39) 22 rfl wr.heap.size 9 i1 (.string ⟨#[]⟩) 1 16 Tryz.underlying22 hi1 hy0 hy1 hy2 rfl (Nat.succ_pos 0) (.slice (some ⟨wr.heap.size, 0, none⟩) 0 0) 0 [] (by simp [Act.eval, Act.put]; try omega) (own_of_blk ((Blk.new wr.drew 9 #[]).alloc _) (Nat.le_refl _) rfl (by decide) rfl) wr.heap.size (some ⟨g1, 0, none⟩) j j (((bagTo b k).map fun u => st (text u)).take (j)) (by simp [Act.eval, Act.put]; try omega) (HRT.out _ (by go_grown)) HO1.out (by unfold maxLen; omega) (by omega) (by simp; try omega) ?_; intro v1 w1 hown1 hg1 hat1; have hB1 : Below wr.heap.size wr w1 := Below.grown (by go_grown) hg1 (by simp; try omega) (by intro q hq; simp [Value.ownBlock] at hq; omega); have hX6 : Blk w1 (wr.heap.size + 1) 9 #[.string ⟨(text u).toArray⟩] := (blk_second wr.drew _ 9 #[.string ⟨(text u).toArray⟩]).grown hg1 (by simp [Value.ownBlock]))
                | (refine step_append_any _ rfl (.tmp 36) (.tmp 39) 22 rfl wr.heap.size 9 i1 (.string ⟨#[]⟩) 1 16 Tryz.underlying22 hi1 hy0 hy1 hy2 rfl (Nat.succ_pos 0) (.slice (some ⟨(wr.heap.size + 1), 0, none⟩) 0 0) 0 [] (by simp [Act.eval, Act.put]; try omega) (own_of_blk (blk_second wr.drew _ 9 #[]) (by omega) rfl (by decide) rfl) wr.heap.size (some ⟨g1, 0, none⟩) j j (((bagTo b k).map fun u => st (text u)).take (j)) (by simp [Act.eval, Act.put]; try omega) (HRT.out _ (by go_grown)) HO1.out (by unfold maxLen; omega) (by omega) (by simp; try omega) ?_; intro v1 w1 hown1 hg1 hat1; have hB1 : Below wr.heap.size wr w1 := Below.grown (by go_grown) hg1 (by simp; try omega) (by intro q hq; simp [Value.ownBlock] at hq; omega); have hX6 : Blk w1 wr.heap.size 9 #[.string ⟨(text u).toArray⟩] := ((Blk.new wr.drew 9 #[.string ⟨(text u).toArray⟩]).alloc _).grown hg1 (by simp [Value.ownBlock]))
                | (refine step_append_any _ rfl (.tmp 40) (.tmp 42) 22 rfl wr.heap.size 9 i1 (.string ⟨#[]⟩) 1 16 Tryz.underlying22 hi1 hy0 hy1 hy2 rfl (Nat.succ_pos 0) v1 (0 + j) ([] ++ ((bagTo b k).map fun u => st (text u)).take (j)) (by simp [Act.eval, Act.put]; try omega) (hown1.alloc _) _ (some ⟨w1.heap.size, 0, none⟩) 1 1 [.string ⟨(text u).toArray⟩] (by simp [Act.eval, Act.put]; try omega) (reads_blk (Blk.new w1 9 #[.string ⟨(text u).toArray⟩]) rfl rfl) HOneC.out (by unfold maxLen; omega) (by omega) (by have := hB1.size; simp; try omega) ?_; intro v2 w2 hown2 hg2 hat2; have hB2 : Below wr.heap.size wr w2 := Below.grown (by first | exact hB1 | exact hB1.alloc hB1.size _) hg2 (by have := hB1.size; simp; try omega) (by intro q hq; exact (own_block_lt hown1 q hq).1))
                | (refine step_append_any _ rfl (.tmp 40) (.tmp 42) 22 rfl wr.heap.size 9 i1 (.string ⟨#[]⟩) 1 16 Tryz.underlying22 hi1 hy0 hy1 hy2 rfl (Nat.succ_pos 0) v1 (0 + j) ([] ++ ((bagTo b k).map fun u => st (text u)).take (j)) (by simp [Act.eval, Act.put]; try omega) hown1 _ (some ⟨(wr.heap.size + 1), 0, none⟩) 1 1 [.string ⟨(text u).toArray⟩] (by simp [Act.eval, Act.put]; try omega) (reads_blk hX6 rfl rfl) HOneC.out (by unfold maxLen; omega) (by omega) (by have := hB1.size; simp; try omega) ?_; intro v2 w2 hown2 hg2 hat2; have hB2 : Below wr.heap.size wr w2 := Below.grown (by first | exact hB1 | exact hB1.alloc hB1.size _) hg2 (by have := hB1.size; simp; try omega) (by intro q hq; exact (own_block_lt hown1 q hq).1))
                | (refine step_append_any _ rfl (.tmp 40) (.tmp 42) 22 rfl wr.heap.size 9 i1 (.string ⟨#[]⟩) 1 16 Tryz.underlying22 hi1 hy0 hy1 hy2 rfl (Nat.succ_pos 0) v1 (0 + j) ([] ++ ((bagTo b k).map fun u => st (text u)).take (j)) (by simp [Act.eval, Act.put]; try omega) hown1 _ (some ⟨wr.heap.size, 0, none⟩) 1 1 [.string ⟨(text u).toArray⟩] (by simp [Act.eval, Act.put]; try omega) (reads_blk hX6 rfl rfl) HOneC.out (by unfold maxLen; omega) (by omega) (by have := hB1.size; simp; try omega) ?_; intro v2 w2 hown2 hg2 hat2; have hB2 : Below wr.heap.size wr w2 := Below.grown (by first | exact hB1 | exact hB1.alloc hB1.size _) hg2 (by have := hB1.size; simp; try omega) (by intro q hq; exact (own_block_lt hown1 q hq).1))
                | (refine step_append_any _ rfl (.tmp 43) (.tmp 46) 22 rfl wr.heap.size 9 i1 (.string ⟨#[]⟩) 1 16 Tryz.underlying22 hi1 hy0 hy1 hy2 rfl (Nat.succ_pos 0) v2 (0 + j + 1) ([] ++ ((bagTo b k).map fun u => st (text u)).take (j) ++ [.string ⟨(text u).toArray⟩]) (by simp [Act.eval, Act.put]; try omega) hown2 wr.heap.size (if j = j then some ⟨g1, 0, none⟩ else some ⟨g1, j, none⟩) (k - j) (j - j) (((bagTo b k).map fun u => st (text u)).drop (j)) (by simp [Act.eval, Act.put]; try omega) (HRD.out _ hB2) HO2.out (by unfold maxLen; omega) (by omega) hB2.size ?_; intro v3 w3 hown3 hg3 hat3; have hB3 : Below wr.heap.size wr w3 := Below.grown hB2 hg3 hB2.size (by intro q hq; exact (own_block_lt hown2 q hq).1)))
              all_goals
                go_wp2_with fail
                go_meet
                case rel =>
                  obtain ⟨g3, d3, hv3, hd3, ho3⟩ := own_done hown3 hj (ts := (bagTo b (k + 1)).map fun u => st (text u)) (by rw [HINS.out]; simp [List.map_take, List.map_drop]; rfl)
                  exact ⟨g3, d3, hv3, hd3, ho3, hB3⟩
            case rest =>
              obtain ⟨g3, d3, rfl, hcut⟩ := hcut
              have HCUT := Lib.hid hcut
              clear hcut HRT HRD HO1 HO2 HOneC
              have hwc : wr.heap.size ≤ wc.heap.size := HCUT.out.out.2.2.size
              have hBw : Below w4.heap.size w4 wc := (HDQ.out.below _).trans (HCUT.out.out.2.2.mono hq0)
              have hBo : Below wo.heap.size wo wc := hb4'.out.trans (hBw.mono hsz4)
              have hBW : Below w.heap.size w wc := HREL.out.below.trans (hBo.mono (by omega))
              have hown2 : wc.ownsRow (w.heap.size + 1) 84 2 (.slice (some ⟨g2, 0, none⟩) k d2) k xs :=
                HREL.out.own2.kept (row := none) ⟨hBo.os, hBo.tape, hBo.output, hBo.size, fun q hq _ => hBo.block q hq⟩ (by simp [Value.ownBlock])
              have HOWN2 := Lib.hid hown2
              have hret := HREL.out.ret.below hBo HREL.out.ret.lt
              have HRET := Lib.hid hret
              have k1 : wc.cell? ⟨ab, ao + k * 2, none⟩ = some (.string ⟨ux.toArray⟩) := below_keeps hBW _ _ C1.out
              have k2 : wc.cell? ⟨ab, ao + k * 2 + 1, none⟩ = some (.slice uA un uc) := below_keeps hBW _ _ C2.out
              have k1a := cell_alloc k1
              have k2a := cell_alloc k2
              have hab : ab + 1 ≤ wc.heap.size := World.block_lt_of_cell? wc _ k1
              have HBW := Lib.hid hBW
              clear hBw hBo hBW hown2 hret
              have HRT : Hid (∀ W, Below wc.heap.size wc W → Reads W wc.heap.size 2 (some ⟨g2, 0, none⟩) j (xs.take (j * 2))) := fun W hW => reads_take HOWN2.out (Drew.refl _) hW hj
              have HRD : Hid (∀ W, Below wc.heap.size wc W → Reads W wc.heap.size 2 (if d2 = j then some ⟨g2, 0, none⟩ else some ⟨g2, j * 2, none⟩) (k - j) (xs.drop (j * 2))) := fun W hW => reads_drop HOWN2.out (Drew.refl _) hW hj hkd2
              have hone := repF_one _ _ (RepFF.rep _ _ HREL.out.rep)
              have HO1 : Hid (∀ u ∈ xs.take (j * 2), u.oneCell' = true) := fun u hu => hone u (List.mem_of_mem_take hu)
              have HO2 : Hid (∀ u ∈ xs.drop (j * 2), u.oneCell' = true) := fun u hu => hone u (List.mem_of_mem_drop hu)
              have HOneC : Hid (∀ q ∈ [Value.string ⟨ux.toArray⟩, Value.slice uA un uc], q.oneCell' = true) := by
                intro q hq
                simp at hq
                rcases hq with rfl | rfl <;> rfl
              clear hone
              go_upto_region 11 with fail
              go_region_law (first
                  | (refine step_append_any _ rfl (.tmp 48) (.tmp 51) 82 rfl wc.heap.size 84 i0 (.agg #[.string ⟨#[]⟩, .slice none 0 0]) 2 40 Tryz.underlying82 hi0 hz0 hz1 hz2 rfl (Nat.succ_pos 1) (.slice (some ⟨wc.heap.size, 0, none⟩) 0 0) 0 [] (by simp [Act.eval, Act.put]; try omega) (own_of_blk (Blk.new wc.drew 84 #[]) (Nat.le_refl _) rfl (by decide) rfl) wc.heap.size (some ⟨g2, 0, none⟩) j d2 ((xs).take (j * 2)) (by simp [Act.eval, Act.put]; try omega) (HRT.out _ (by go_grown)) HO1.out (by unfold maxLen; omega) (by omega) (by simp; try omega) ?_; intro v1 w1 hown1 hg1 hat1; have k1w : w1.cell? ⟨ab, ao + k * 2, none⟩ = some (.string ⟨ux.toArray⟩) := (World.cell?_of_block (hg1.block ab (by simp; omega) (by simp [Value.ownBlock]; omega))).trans (by first | exact cell_alloc k1 _ | exact cell_alloc (cell_alloc k1 _) _); have k2w : w1.cell? ⟨ab, ao + k * 2 + 1, none⟩ = some (.slice uA un uc) := (World.cell?_of_block (hg1.block ab (by simp; omega) (by simp [Value.ownBlock]; omega))).trans (by first | exact cell_alloc k2 _ | exact cell_alloc (cell_alloc k2 _) _); have hB1 : Below wc.heap.size wc w1 := Below.grown (by go_grown) hg1 (by simp; try omega) (by intro q hq; simp [Value.ownBlock] at hq; omega))
                  | (refine step_append_any _ rfl (.tmp 48) (.tmp 51) 82 rfl wc.heap.size 84 i0 (.agg #[.string ⟨#[]⟩, .slice none 0 0]) 2 40 Tryz.underlying82 hi0 hz0 hz1 hz2 rfl (Nat.succ_pos 1) (.slice (some ⟨wc.heap.size, 0, none⟩) 0 0) 0 [] (by simp [Act.eval, Act.put]; try omega) (own_of_blk ((Blk.new wc.drew 84 #[]).alloc _) (Nat.le_refl _) rfl (by decide) rfl) wc.heap.size (some ⟨g2, 0, none⟩) j d2 ((xs).take (j * 2)) (by simp [Act.eval, Act.put]; try omega) (HRT.out _ (by go_grown)) HO1.out (by unfold maxLen; omega) (by omega) (by simp; try omega) ?_; intro v1 w1 hown1 hg1 hat1; have k1w : w1.cell? ⟨ab, ao + k * 2, none⟩ = some (.string ⟨ux.toArray⟩) := (World.cell?_of_block (hg1.block ab (by simp; omega) (by simp [Value.ownBlock]; omega))).trans (by first | exact cell_alloc k1 _ | exact cell_alloc (cell_alloc k1 _) _); have k2w : w1.cell? ⟨ab, ao + k * 2 + 1, none⟩ = some (.slice uA un uc) := (World.cell?_of_block (hg1.block ab (by simp; omega) (by simp [Value.ownBlock]; omega))).trans (by first | exact cell_alloc k2 _ | exact cell_alloc (cell_alloc k2 _) _); have hB1 : Below wc.heap.size wc w1 := Below.grown (by go_grown) hg1 (by simp; try omega) (by intro q hq; simp [Value.ownBlock] at hq; omega); have hX6 : Blk w1 (wc.heap.size + 1) 84 #[.string ⟨ux.toArray⟩, .slice uA un uc] := (blk_second wc.drew _ 84 #[.string ⟨ux.toArray⟩, .slice uA un uc]).grown hg1 (by simp [Value.ownBlock]))
                  | (refine step_append_any _ rfl (.tmp 48) (.tmp 51) 82 rfl wc.heap.size 84 i0 (.agg #[.string ⟨#[]⟩, .slice none 0 0]) 2 40 Tryz.underlying82 hi0 hz0 hz1 hz2 rfl (Nat.succ_pos 1) (.slice (some ⟨(wc.heap.size + 1), 0, none⟩) 0 0) 0 [] (by simp [Act.eval, Act.put]; try omega) (own_of_blk (blk_second wc.drew _ 84 #[]) (by omega) rfl (by decide) rfl) wc.heap.size (some ⟨g2, 0, none⟩) j d2 ((xs).take (j * 2)) (by simp [Act.eval, Act.put]; try omega) (HRT.out _ (by go_grown)) HO1.out (by unfold maxLen; omega) (by omega) (by simp; try omega) ?_; intro v1 w1 hown1 hg1 hat1; have k1w : w1.cell? ⟨ab, ao + k * 2, none⟩ = some (.string ⟨ux.toArray⟩) := (World.cell?_of_block (hg1.block ab (by simp; omega) (by simp [Value.ownBlock]; omega))).trans (by first | exact cell_alloc k1 _ | exact cell_alloc (cell_alloc k1 _) _); have k2w : w1.cell? ⟨ab, ao + k * 2 + 1, none⟩ = some (.slice uA un uc) := (World.cell?_of_block (hg1.block ab (by simp; omega) (by simp [Value.ownBlock]; omega))).trans (by first | exact cell_alloc k2 _ | exact cell_alloc (cell_alloc k2 _) _); have hB1 : Below wc.heap.size wc w1 := Below.grown (by go_grown) hg1 (by simp; try omega) (by intro q hq; simp [Value.ownBlock] at hq; omega); have hX6 : Blk w1 wc.heap.size 84 #[.string ⟨ux.toArray⟩, .slice uA un uc] := ((Blk.new wc.drew 84 #[.string ⟨ux.toArray⟩, .slice uA un uc]).alloc _).grown hg1 (by simp [Value.ownBlock]))
                  | (refine step_append_any _ rfl (.tmp 52) (.tmp 57) 82 rfl wc.heap.size 84 i0 (.agg #[.string ⟨#[]⟩, .slice none 0 0]) 2 40 Tryz.underlying82 hi0 hz0 hz1 hz2 rfl (Nat.succ_pos 1) v1 (0 + j) ([] ++ (xs).take (j * 2)) (by simp [Act.eval, Act.put]; try omega) (hown1.alloc _) _ (some ⟨w1.heap.size, 0, none⟩) 1 1 [.string ⟨ux.toArray⟩, .slice uA un uc] (by simp [Act.eval, Act.put]; try omega) (reads_blk (Blk.new w1 84 #[.string ⟨ux.toArray⟩, .slice uA un uc]) rfl rfl) HOneC.out (by unfold maxLen; omega) (by omega) (by have := hB1.size; simp; try omega) ?_; intro v2 w2 hown2 hg2 hat2; have hB2 : Below wc.heap.size wc w2 := Below.grown (by first | exact hB1 | exact hB1.alloc hB1.size _) hg2 (by have := hB1.size; simp; try omega) (by intro q hq; exact (own_block_lt hown1 q hq).1))
                  | (refine step_append_any _ rfl (.tmp 52) (.tmp 57) 82 rfl wc.heap.size 84 i0 (.agg #[.string ⟨#[]⟩, .slice none 0 0]) 2 40 Tryz.underlying82 hi0 hz0 hz1 hz2 rfl (Nat.succ_pos 1) v1 (0 + j) ([] ++ (xs).take (j * 2)) (by simp [Act.eval, Act.put]; try omega) hown1 _ (some ⟨(wc.heap.size + 1), 0, none⟩) 1 1 [.string ⟨ux.toArray⟩, .slice uA un uc] (by simp [Act.eval, Act.put]; try omega) (reads_blk hX6 rfl rfl) HOneC.out (by unfold maxLen; omega) (by omega) (by have := hB1.size; simp; try omega) ?_; intro v2 w2 hown2 hg2 hat2; have hB2 : Below wc.heap.size wc w2 := Below.grown (by first | exact hB1 | exact hB1.alloc hB1.size _) hg2 (by have := hB1.size; simp; try omega) (by intro q hq; exact (own_block_lt hown1 q hq).1))
                  | (refine step_append_any _ rfl (.tmp 52) (.tmp 57) 82 rfl wc.heap.size 84 i0 (.agg #[.string ⟨#[]⟩, .slice none 0 0]) 2 40 Tryz.underlying82 hi0 hz0 hz1 hz2 rfl (Nat.succ_pos 1) v1 (0 + j) ([] ++ (xs).take (j * 2)) (by simp [Act.eval, Act.put]; try omega) hown1 _ (some ⟨wc.heap.size, 0, none⟩) 1 1 [.string ⟨ux.toArray⟩, .slice uA un uc] (by simp [Act.eval, Act.put]; try omega) (reads_blk hX6 rfl rfl) HOneC.out (by unfold maxLen; omega) (by omega) (by have := hB1.size; simp; try omega) ?_; intro v2 w2 hown2 hg2 hat2; have hB2 : Below wc.heap.size wc w2 := Below.grown (by first | exact hB1 | exact hB1.alloc hB1.size _) hg2 (by have := hB1.size; simp; try omega) (by intro q hq; exact (own_block_lt hown1 q hq).1))
                  | (refine step_append_any _ rfl (.tmp 58) (.tmp 61) 82 rfl wc.heap.size 84 i0 (.agg #[.string ⟨#[]⟩, .slice none 0 0]) 2 40 Tryz.underlying82 hi0 hz0 hz1 hz2 rfl (Nat.succ_pos 1) v2 (0 + j + 1) ([] ++ (xs).take (j * 2) ++ [.string ⟨ux.toArray⟩, .slice uA un uc]) (by simp [Act.eval, Act.put]; try omega) hown2 wc.heap.size (if d2 = j then some ⟨g2, 0, none⟩ else some ⟨g2, j * 2, none⟩) (k - j) (d2 - j) ((xs).drop (j * 2)) (by simp [Act.eval, Act.put]; try omega) (HRD.out _ hB2) HO2.out (by unfold maxLen; omega) (by omega) hB2.size ?_; intro v3 w3 hown3 hg3 hat3; have hB3 : Below wc.heap.size wc w3 := Below.grown hB2 hg3 hB2.size (by intro q hq; exact (own_block_lt hown2 q hq).1)))
              all_goals
                obtain ⟨g4, d4, rfl, hd4, ho4⟩ := own_done hown3 hj rfl
                have hwW : w.heap.size + 1 ≤ wc.heap.size := HRET.out.lt
                have hrel' : BagRel F w b w3 (k + 1) g3 d3 g4 d4 (xs.take (j * 2) ++ [.string ⟨ux.toArray⟩, .slice uA un uc] ++ xs.drop (j * 2)) := by
                  refine ⟨by omega, ?_, own_mono ho4 hwW, HCUT.out.out.1, hd4, ?_, HRET.out.below hB3 (by omega), HBW.out.trans (hB3.mono (by omega))⟩
                  · have hh := HCUT.out.out.2.1
                    have hg3 := (own_block_lt hh g3 rfl).2
                    refine own_mono (hh.kept (row := none) ⟨hB3.os, hB3.tape, hB3.output, hB3.size, fun q hq _ => hB3.block q hq⟩ (by simp [Value.ownBlock])) (by omega)
                  · rw [HINS.out, ofTerms_append, ofTerms]
                    have e1 : ofTerms ((bagTo b k).take j) = (ofTerms (bagTo b k)).take j := by rw [ofTerms_map, ofTerms_map, List.map_take]
                    have e2 : ofTerms ((bagTo b k).drop j) = (ofTerms (bagTo b k)).drop j := by rw [ofTerms_map, ofTerms_map, List.map_drop]
                    rw [e1, e2]
                    have := RepFF.append _ _ _ _ (RepFF.append _ _ _ _ (RepFF.take _ _ j HREL.out.rep) (RepFF.one HU.out)) (RepFF.drop _ _ j HREL.out.rep)
                    simpa using this
                have HREL2 := Lib.hid hrel'
                clear hrel' hown3 hg3 hat3 hB3 hown2 hg2 hat2 hB2 hown1 hg1 hat1 hB1 ho4
                go_wp2_with fail
                go_roundw
                case rel => exact ⟨k + 1, g3, d3, g4, d4, _, by go_num, rfl, rfl, HREL2.out⟩
                case measure => simp [intOf]; omega
          · go_wp2_with fail
            have HDQ := Lib.hid hD
            clear hD hdum
            have hkd1 := HREL.out.kd1
            have hkd2 := HREL.out.kd2
            have hjd1 : j ≤ d1 := by omega
            have hjd2 : j ≤ d2 := by omega
            have hq0 : w4.heap.size ≤ wr.heap.size := (HDQ.out.below 0).size
            have HRT : Hid (∀ W, Below wr.heap.size wr W → Reads W wr.heap.size 1 (some ⟨g1, 0, none⟩) j (((bagTo b k).map fun u => st (text u)).take j)) := by
              intro W hW
              simpa using reads_take HOWN1.out HDQ.out hW hj
            have HRD : Hid (∀ W, Below wr.heap.size wr W → Reads W wr.heap.size 1 (if d1 = j then some ⟨g1, 0, none⟩ else some ⟨g1, j, none⟩) (k - j) (((bagTo b k).map fun u => st (text u)).drop j)) := by
              intro W hW
              simpa using reads_drop HOWN1.out HDQ.out hW hj hkd1
            have HO1 : Hid (∀ u ∈ ((bagTo b k).map fun u => st (text u)).take j, u.oneCell' = true) := by
              intro u hu
              obtain ⟨y, _, rfl⟩ := List.mem_map.1 (List.mem_of_mem_take hu)
              rfl
            have HO2 : Hid (∀ u ∈ ((bagTo b k).map fun u => st (text u)).drop j, u.oneCell' = true) := by
              intro u hu
              obtain ⟨y, _, rfl⟩ := List.mem_map.1 (List.mem_of_mem_drop hu)
              rfl
            have HOneC : Hid (∀ q ∈ [Value.string ⟨(text u).toArray⟩], q.oneCell' = true) := by
              intro q hq
              simp at hq; subst hq; rfl
            go_upto_region 10 with fail
            go_cut [3] from 36 to 47 (fun s3 wx => ∃ g3 d3, s3 = .slice (some ⟨g3, 0, none⟩) (k + 1) d3 ∧ Hid (k + 1 ≤ d3 ∧ wx.ownsRow wr.heap.size 9 1 s3 (k + 1) ((bagTo b (k + 1)).map fun u => st (text u)) ∧ Below wr.heap.size wr wx))
            case first =>
              go_region_law (first
                | (refine step_append_any _ rfl (.tmp 36) (.tmp 39) 22 rfl wr.heap.size 9 i1 (.string ⟨#[]⟩) 1 16 Tryz.underlying22 hi1 hy0 hy1 hy2 rfl (Nat.succ_pos 0) (.slice (some ⟨wr.heap.size, 0, none⟩) 0 0) 0 [] (by simp [Act.eval, Act.put]; try omega) (own_of_blk (Blk.new wr.drew 9 #[]) (Nat.le_refl _) rfl (by decide) rfl) wr.heap.size (some ⟨g1, 0, none⟩) j d1 (((bagTo b k).map fun u => st (text u)).take (j)) (by simp [Act.eval, Act.put]; try omega) (HRT.out _ (by go_grown)) HO1.out (by unfold maxLen; omega) (by omega) (by simp; try omega) ?_; intro v1 w1 hown1 hg1 hat1; have hB1 : Below wr.heap.size wr w1 := Below.grown (by go_grown) hg1 (by simp; try omega) (by intro q hq; simp [Value.ownBlock] at hq; omega))
                | (refine step_append_any _ rfl (.tmp 36) (.tmp 39) 22 rfl wr.heap.size 9 i1 (.string ⟨#[]⟩) 1 16 Tryz.underlying22 hi1 hy0 hy1 hy2 rfl (Nat.succ_pos 0) (.slice (some ⟨wr.heap.size, 0, none⟩) 0 0) 0 [] (by simp [Act.eval, Act.put]; try omega) (own_of_blk ((Blk.new wr.drew 9 #[]).alloc _) (Nat.le_refl _) rfl (by decide) rfl) wr.heap.size (some ⟨g1, 0, none⟩) j d1 (((bagTo b k).map fun u => st (text u)).take (j)) (by simp [Act.eval, Act.put]; try omega) (HRT.out _ (by go_grown)) HO1.out (by unfold maxLen; omega) (by omega) (by simp; try omega) ?_; intro v1 w1 hown1 hg1 hat1; have hB1 : Below wr.heap.size wr w1 := Below.grown (by go_grown) hg1 (by simp; try omega) (by intro q hq; simp [Value.ownBlock] at hq; omega); have hX6 : Blk w1 (wr.heap.size + 1) 9 #[.string ⟨(text u).toArray⟩] := (blk_second wr.drew _ 9 #[.string ⟨(text u).toArray⟩]).grown hg1 (by simp [Value.ownBlock]))
                | (refine step_append_any _ rfl (.tmp 36) (.tmp 39) 22 rfl wr.heap.size 9 i1 (.string ⟨#[]⟩) 1 16 Tryz.underlying22 hi1 hy0 hy1 hy2 rfl (Nat.succ_pos 0) (.slice (some ⟨(wr.heap.size + 1), 0, none⟩) 0 0) 0 [] (by simp [Act.eval, Act.put]; try omega) (own_of_blk (blk_second wr.drew _ 9 #[]) (by omega) rfl (by decide) rfl) wr.heap.size (some ⟨g1, 0, none⟩) j d1 (((bagTo b k).map fun u => st (text u)).take (j)) (by simp [Act.eval, Act.put]; try omega) (HRT.out _ (by go_grown)) HO1.out (by unfold maxLen; omega) (by omega) (by simp; try omega) ?_; intro v1 w1 hown1 hg1 hat1; have hB1 : Below wr.heap.size wr w1 := Below.grown (by go_grown) hg1 (by simp; try omega) (by intro q hq; simp [Value.ownBlock] at hq; omega); have hX6 : Blk w1 wr.heap.size 9 #[.string ⟨(text u).toArray⟩] := ((Blk.new wr.drew 9 #[.string ⟨(text u).toArray⟩]).alloc _).grown hg1 (by simp [Value.ownBlock]))
                | (refine step_append_any _ rfl (.tmp 40) (.tmp 42) 22 rfl wr.heap.size 9 i1 (.string ⟨#[]⟩) 1 16 Tryz.underlying22 hi1 hy0 hy1 hy2 rfl (Nat.succ_pos 0) v1 (0 + j) ([] ++ ((bagTo b k).map fun u => st (text u)).take (j)) (by simp [Act.eval, Act.put]; try omega) (hown1.alloc _) _ (some ⟨w1.heap.size, 0, none⟩) 1 1 [.string ⟨(text u).toArray⟩] (by simp [Act.eval, Act.put]; try omega) (reads_blk (Blk.new w1 9 #[.string ⟨(text u).toArray⟩]) rfl rfl) HOneC.out (by unfold maxLen; omega) (by omega) (by have := hB1.size; simp; try omega) ?_; intro v2 w2 hown2 hg2 hat2; have hB2 : Below wr.heap.size wr w2 := Below.grown (by first | exact hB1 | exact hB1.alloc hB1.size _) hg2 (by have := hB1.size; simp; try omega) (by intro q hq; exact (own_block_lt hown1 q hq).1))
                | (refine step_append_any _ rfl (.tmp 40) (.tmp 42) 22 rfl wr.heap.size 9 i1 (.string ⟨#[]⟩) 1 16 Tryz.underlying22 hi1 hy0 hy1 hy2 rfl (Nat.succ_pos 0) v1 (0 + j) ([] ++ ((bagTo b k).map fun u => st (text u)).take (j)) (by simp [Act.eval, Act.put]; try omega) hown1 _ (some ⟨(wr.heap.size + 1), 0, none⟩) 1 1 [.string ⟨(text u).toArray⟩] (by simp [Act.eval, Act.put]; try omega) (reads_blk hX6 rfl rfl) HOneC.out (by unfold maxLen; omega) (by omega) (by have := hB1.size; simp; try omega) ?_; intro v2 w2 hown2 hg2 hat2; have hB2 : Below wr.heap.size wr w2 := Below.grown (by first | exact hB1 | exact hB1.alloc hB1.size _) hg2 (by have := hB1.size; simp; try omega) (by intro q hq; exact (own_block_lt hown1 q hq).1))
                | (refine step_append_any _ rfl (.tmp 40) (.tmp 42) 22 rfl wr.heap.size 9 i1 (.string ⟨#[]⟩) 1 16 Tryz.underlying22 hi1 hy0 hy1 hy2 rfl (Nat.succ_pos 0) v1 (0 + j) ([] ++ ((bagTo b k).map fun u => st (text u)).take (j)) (by simp [Act.eval, Act.put]; try omega) hown1 _ (some ⟨wr.heap.size, 0, none⟩) 1 1 [.string ⟨(text u).toArray⟩] (by simp [Act.eval, Act.put]; try omega) (reads_blk hX6 rfl rfl) HOneC.out (by unfold maxLen; omega) (by omega) (by have := hB1.size; simp; try omega) ?_; intro v2 w2 hown2 hg2 hat2; have hB2 : Below wr.heap.size wr w2 := Below.grown (by first | exact hB1 | exact hB1.alloc hB1.size _) hg2 (by have := hB1.size; simp; try omega) (by intro q hq; exact (own_block_lt hown1 q hq).1))
                | (refine step_append_any _ rfl (.tmp 43) (.tmp 46) 22 rfl wr.heap.size 9 i1 (.string ⟨#[]⟩) 1 16 Tryz.underlying22 hi1 hy0 hy1 hy2 rfl (Nat.succ_pos 0) v2 (0 + j + 1) ([] ++ ((bagTo b k).map fun u => st (text u)).take (j) ++ [.string ⟨(text u).toArray⟩]) (by simp [Act.eval, Act.put]; try omega) hown2 wr.heap.size (if d1 = j then some ⟨g1, 0, none⟩ else some ⟨g1, j, none⟩) (k - j) (d1 - j) (((bagTo b k).map fun u => st (text u)).drop (j)) (by simp [Act.eval, Act.put]; try omega) (HRD.out _ hB2) HO2.out (by unfold maxLen; omega) (by omega) hB2.size ?_; intro v3 w3 hown3 hg3 hat3; have hB3 : Below wr.heap.size wr w3 := Below.grown hB2 hg3 hB2.size (by intro q hq; exact (own_block_lt hown2 q hq).1)))
              all_goals
                go_wp2_with fail
                go_meet
                case rel =>
                  obtain ⟨g3, d3, hv3, hd3, ho3⟩ := own_done hown3 hj (ts := (bagTo b (k + 1)).map fun u => st (text u)) (by rw [HINS.out]; simp [List.map_take, List.map_drop]; rfl)
                  exact ⟨g3, d3, hv3, hd3, ho3, hB3⟩
            case rest =>
              obtain ⟨g3, d3, rfl, hcut⟩ := hcut
              have HCUT := Lib.hid hcut
              clear hcut HRT HRD HO1 HO2 HOneC
              have hwc : wr.heap.size ≤ wc.heap.size := HCUT.out.out.2.2.size
              have hBw : Below w4.heap.size w4 wc := (HDQ.out.below _).trans (HCUT.out.out.2.2.mono hq0)
              have hBo : Below wo.heap.size wo wc := hb4'.out.trans (hBw.mono hsz4)
              have hBW : Below w.heap.size w wc := HREL.out.below.trans (hBo.mono (by omega))
              have hown2 : wc.ownsRow (w.heap.size + 1) 84 2 (.slice (some ⟨g2, 0, none⟩) k d2) k xs :=
                HREL.out.own2.kept (row := none) ⟨hBo.os, hBo.tape, hBo.output, hBo.size, fun q hq _ => hBo.block q hq⟩ (by simp [Value.ownBlock])
              have HOWN2 := Lib.hid hown2
              have hret := HREL.out.ret.below hBo HREL.out.ret.lt
              have HRET := Lib.hid hret
              have k1 : wc.cell? ⟨ab, ao + k * 2, none⟩ = some (.string ⟨ux.toArray⟩) := below_keeps hBW _ _ C1.out
              have k2 : wc.cell? ⟨ab, ao + k * 2 + 1, none⟩ = some (.slice uA un uc) := below_keeps hBW _ _ C2.out
              have k1a := cell_alloc k1
              have k2a := cell_alloc k2
              have hab : ab + 1 ≤ wc.heap.size := World.block_lt_of_cell? wc _ k1
              have HBW := Lib.hid hBW
              clear hBw hBo hBW hown2 hret
              have HRT : Hid (∀ W, Below wc.heap.size wc W → Reads W wc.heap.size 2 (some ⟨g2, 0, none⟩) j (xs.take (j * 2))) := fun W hW => reads_take HOWN2.out (Drew.refl _) hW hj
              have HRD : Hid (∀ W, Below wc.heap.size wc W → Reads W wc.heap.size 2 (if d2 = j then some ⟨g2, 0, none⟩ else some ⟨g2, j * 2, none⟩) (k - j) (xs.drop (j * 2))) := fun W hW => reads_drop HOWN2.out (Drew.refl _) hW hj hkd2
              have hone := repF_one _ _ (RepFF.rep _ _ HREL.out.rep)
              have HO1 : Hid (∀ u ∈ xs.take (j * 2), u.oneCell' = true) := fun u hu => hone u (List.mem_of_mem_take hu)
              have HO2 : Hid (∀ u ∈ xs.drop (j * 2), u.oneCell' = true) := fun u hu => hone u (List.mem_of_mem_drop hu)
              have HOneC : Hid (∀ q ∈ [Value.string ⟨ux.toArray⟩, Value.slice uA un uc], q.oneCell' = true) := by
                intro q hq
                simp at hq
                rcases hq with rfl | rfl <;> rfl
              clear hone
              go_upto_region 11 with fail
              go_region_law (first
                  | (refine step_append_any _ rfl (.tmp 48) (.tmp 51) 82 rfl wc.heap.size 84 i0 (.agg #[.string ⟨#[]⟩, .slice none 0 0]) 2 40 Tryz.underlying82 hi0 hz0 hz1 hz2 rfl (Nat.succ_pos 1) (.slice (some ⟨wc.heap.size, 0, none⟩) 0 0) 0 [] (by simp [Act.eval, Act.put]; try omega) (own_of_blk (Blk.new wc.drew 84 #[]) (Nat.le_refl _) rfl (by decide) rfl) wc.heap.size (some ⟨g2, 0, none⟩) j d2 ((xs).take (j * 2)) (by simp [Act.eval, Act.put]; try omega) (HRT.out _ (by go_grown)) HO1.out (by unfold maxLen; omega) (by omega) (by simp; try omega) ?_; intro v1 w1 hown1 hg1 hat1; have k1w : w1.cell? ⟨ab, ao + k * 2, none⟩ = some (.string ⟨ux.toArray⟩) := (World.cell?_of_block (hg1.block ab (by simp; omega) (by simp [Value.ownBlock]; omega))).trans (by first | exact cell_alloc k1 _ | exact cell_alloc (cell_alloc k1 _) _); have k2w : w1.cell? ⟨ab, ao + k * 2 + 1, none⟩ = some (.slice uA un uc) := (World.cell?_of_block (hg1.block ab (by simp; omega) (by simp [Value.ownBlock]; omega))).trans (by first | exact cell_alloc k2 _ | exact cell_alloc (cell_alloc k2 _) _); have hB1 : Below wc.heap.size wc w1 := Below.grown (by go_grown) hg1 (by simp; try omega) (by intro q hq; simp [Value.ownBlock] at hq; omega))
                  | (refine step_append_any _ rfl (.tmp 48) (.tmp 51) 82 rfl wc.heap.size 84 i0 (.agg #[.string ⟨#[]⟩, .slice none 0 0]) 2 40 Tryz.underlying82 hi0 hz0 hz1 hz2 rfl (Nat.succ_pos 1) (.slice (some ⟨wc.heap.size, 0, none⟩) 0 0) 0 [] (by simp [Act.eval, Act.put]; try omega) (own_of_blk ((Blk.new wc.drew 84 #[]).alloc _) (Nat.le_refl _) rfl (by decide) rfl) wc.heap.size (some ⟨g2, 0, none⟩) j d2 ((xs).take (j * 2)) (by simp [Act.eval, Act.put]; try omega) (HRT.out _ (by go_grown)) HO1.out (by unfold maxLen; omega) (by omega) (by simp; try omega) ?_; intro v1 w1 hown1 hg1 hat1; have k1w : w1.cell? ⟨ab, ao + k * 2, none⟩ = some (.string ⟨ux.toArray⟩) := (World.cell?_of_block (hg1.block ab (by simp; omega) (by simp [Value.ownBlock]; omega))).trans (by first | exact cell_alloc k1 _ | exact cell_alloc (cell_alloc k1 _) _); have k2w : w1.cell? ⟨ab, ao + k * 2 + 1, none⟩ = some (.slice uA un uc) := (World.cell?_of_block (hg1.block ab (by simp; omega) (by simp [Value.ownBlock]; omega))).trans (by first | exact cell_alloc k2 _ | exact cell_alloc (cell_alloc k2 _) _); have hB1 : Below wc.heap.size wc w1 := Below.grown (by go_grown) hg1 (by simp; try omega) (by intro q hq; simp [Value.ownBlock] at hq; omega); have hX6 : Blk w1 (wc.heap.size + 1) 84 #[.string ⟨ux.toArray⟩, .slice uA un uc] := (blk_second wc.drew _ 84 #[.string ⟨ux.toArray⟩, .slice uA un uc]).grown hg1 (by simp [Value.ownBlock]))
                  | (refine step_append_any _ rfl (.tmp 48) (.tmp 51) 82 rfl wc.heap.size 84 i0 (.agg #[.string ⟨#[]⟩, .slice none 0 0]) 2 40 Tryz.underlying82 hi0 hz0 hz1 hz2 rfl (Nat.succ_pos 1) (.slice (some ⟨(wc.heap.size + 1), 0, none⟩) 0 0) 0 [] (by simp [Act.eval, Act.put]; try omega) (own_of_blk (blk_second wc.drew _ 84 #[]) (by omega) rfl (by decide) rfl) wc.heap.size (some ⟨g2, 0, none⟩) j d2 ((xs).take (j * 2)) (by simp [Act.eval, Act.put]; try omega) (HRT.out _ (by go_grown)) HO1.out (by unfold maxLen; omega) (by omega) (by simp; try omega) ?_; intro v1 w1 hown1 hg1 hat1; have k1w : w1.cell? ⟨ab, ao + k * 2, none⟩ = some (.string ⟨ux.toArray⟩) := (World.cell?_of_block (hg1.block ab (by simp; omega) (by simp [Value.ownBlock]; omega))).trans (by first | exact cell_alloc k1 _ | exact cell_alloc (cell_alloc k1 _) _); have k2w : w1.cell? ⟨ab, ao + k * 2 + 1, none⟩ = some (.slice uA un uc) := (World.cell?_of_block (hg1.block ab (by simp; omega) (by simp [Value.ownBlock]; omega))).trans (by first | exact cell_alloc k2 _ | exact cell_alloc (cell_alloc k2 _) _); have hB1 : Below wc.heap.size wc w1 := Below.grown (by go_grown) hg1 (by simp; try omega) (by intro q hq; simp [Value.ownBlock] at hq; omega); have hX6 : Blk w1 wc.heap.size 84 #[.string ⟨ux.toArray⟩, .slice uA un uc] := ((Blk.new wc.drew 84 #[.string ⟨ux.toArray⟩, .slice uA un uc]).alloc _).grown hg1 (by simp [Value.ownBlock]))
                  | (refine step_append_any _ rfl (.tmp 52) (.tmp 57) 82 rfl wc.heap.size 84 i0 (.agg #[.string ⟨#[]⟩, .slice none 0 0]) 2 40 Tryz.underlying82 hi0 hz0 hz1 hz2 rfl (Nat.succ_pos 1) v1 (0 + j) ([] ++ (xs).take (j * 2)) (by simp [Act.eval, Act.put]; try omega) (hown1.alloc _) _ (some ⟨w1.heap.size, 0, none⟩) 1 1 [.string ⟨ux.toArray⟩, .slice uA un uc] (by simp [Act.eval, Act.put]; try omega) (reads_blk (Blk.new w1 84 #[.string ⟨ux.toArray⟩, .slice uA un uc]) rfl rfl) HOneC.out (by unfold maxLen; omega) (by omega) (by have := hB1.size; simp; try omega) ?_; intro v2 w2 hown2 hg2 hat2; have hB2 : Below wc.heap.size wc w2 := Below.grown (by first | exact hB1 | exact hB1.alloc hB1.size _) hg2 (by have := hB1.size; simp; try omega) (by intro q hq; exact (own_block_lt hown1 q hq).1))
                  | (refine step_append_any _ rfl (.tmp 52) (.tmp 57) 82 rfl wc.heap.size 84 i0 (.agg #[.string ⟨#[]⟩, .slice none 0 0]) 2 40 Tryz.underlying82 hi0 hz0 hz1 hz2 rfl (Nat.succ_pos 1) v1 (0 + j) ([] ++ (xs).take (j * 2)) (by simp [Act.eval, Act.put]; try omega) hown1 _ (some ⟨(wc.heap.size + 1), 0, none⟩) 1 1 [.string ⟨ux.toArray⟩, .slice uA un uc] (by simp [Act.eval, Act.put]; try omega) (reads_blk hX6 rfl rfl) HOneC.out (by unfold maxLen; omega) (by omega) (by have := hB1.size; simp; try omega) ?_; intro v2 w2 hown2 hg2 hat2; have hB2 : Below wc.heap.size wc w2 := Below.grown (by first | exact hB1 | exact hB1.alloc hB1.size _) hg2 (by have := hB1.size; simp; try omega) (by intro q hq; exact (own_block_lt hown1 q hq).1))
                  | (refine step_append_any _ rfl (.tmp 52) (.tmp 57) 82 rfl wc.heap.size 84 i0 (.agg #[.string ⟨#[]⟩, .slice none 0 0]) 2 40 Tryz.underlying82 hi0 hz0 hz1 hz2 rfl (Nat.succ_pos 1) v1 (0 + j) ([] ++ (xs).take (j * 2)) (by simp [Act.eval, Act.put]; try omega) hown1 _ (some ⟨wc.heap.size, 0, none⟩) 1 1 [.string ⟨ux.toArray⟩, .slice uA un uc] (by simp [Act.eval, Act.put]; try omega) (reads_blk hX6 rfl rfl) HOneC.out (by unfold maxLen; omega) (by omega) (by have := hB1.size; simp; try omega) ?_; intro v2 w2 hown2 hg2 hat2; have hB2 : Below wc.heap.size wc w2 := Below.grown (by first | exact hB1 | exact hB1.alloc hB1.size _) hg2 (by have := hB1.size; simp; try omega) (by intro q hq; exact (own_block_lt hown1 q hq).1))
                  | (refine step_append_any _ rfl (.tmp 58) (.tmp 61) 82 rfl wc.heap.size 84 i0 (.agg #[.string ⟨#[]⟩, .slice none 0 0]) 2 40 Tryz.underlying82 hi0 hz0 hz1 hz2 rfl (Nat.succ_pos 1) v2 (0 + j + 1) ([] ++ (xs).take (j * 2) ++ [.string ⟨ux.toArray⟩, .slice uA un uc]) (by simp [Act.eval, Act.put]; try omega) hown2 wc.heap.size (if d2 = j then some ⟨g2, 0, none⟩ else some ⟨g2, j * 2, none⟩) (k - j) (d2 - j) ((xs).drop (j * 2)) (by simp [Act.eval, Act.put]; try omega) (HRD.out _ hB2) HO2.out (by unfold maxLen; omega) (by omega) hB2.size ?_; intro v3 w3 hown3 hg3 hat3; have hB3 : Below wc.heap.size wc w3 := Below.grown hB2 hg3 hB2.size (by intro q hq; exact (own_block_lt hown2 q hq).1)))
              all_goals
                obtain ⟨g4, d4, rfl, hd4, ho4⟩ := own_done hown3 hj rfl
                have hwW : w.heap.size + 1 ≤ wc.heap.size := HRET.out.lt
                have hrel' : BagRel F w b w3 (k + 1) g3 d3 g4 d4 (xs.take (j * 2) ++ [.string ⟨ux.toArray⟩, .slice uA un uc] ++ xs.drop (j * 2)) := by
                  refine ⟨by omega, ?_, own_mono ho4 hwW, HCUT.out.out.1, hd4, ?_, HRET.out.below hB3 (by omega), HBW.out.trans (hB3.mono (by omega))⟩
                  · have hh := HCUT.out.out.2.1
                    have hg3 := (own_block_lt hh g3 rfl).2
                    refine own_mono (hh.kept (row := none) ⟨hB3.os, hB3.tape, hB3.output, hB3.size, fun q hq _ => hB3.block q hq⟩ (by simp [Value.ownBlock])) (by omega)
                  · rw [HINS.out, ofTerms_append, ofTerms]
                    have e1 : ofTerms ((bagTo b k).take j) = (ofTerms (bagTo b k)).take j := by rw [ofTerms_map, ofTerms_map, List.map_take]
                    have e2 : ofTerms ((bagTo b k).drop j) = (ofTerms (bagTo b k)).drop j := by rw [ofTerms_map, ofTerms_map, List.map_drop]
                    rw [e1, e2]
                    have := RepFF.append _ _ _ _ (RepFF.append _ _ _ _ (RepFF.take _ _ j HREL.out.rep) (RepFF.one HU.out)) (RepFF.drop _ _ j HREL.out.rep)
                    simpa using this
                have HREL2 := Lib.hid hrel'
                clear hrel' hown3 hg3 hat3 hB3 hown2 hg2 hat2 hB2 hown1 hg1 hat1 hB1 ho4
                go_wp2_with fail
                go_roundw
                case rel => exact ⟨k + 1, g3, d3, g4, d4, _, by go_num, rfl, rfl, HREL2.out⟩
                case measure => simp [intOf]; omega
    · obtain rfl : k = b.length := by omega
      have HREL := Lib.hid hrel
      have hsw : w.heap.size + 1 ≤ wo.heap.size := hrel.ret.lt
      have hg2 := own_block_lt hrel.own2 g2 rfl
      have hlen2 : (ofTerms (bagTo b b.length)).length = b.length := by rw [ofTerms_length, bagTo_length b _ (Nat.le_refl _)]
      have hcon := l1List_any (fun q => F q ∧ q < w.heap.size) [109] ⟨g2, 0, none⟩ d2 (ofTerms (bagTo b b.length)) xs wo (by rw [hlen2]; omega) hg2.2 (hrel.own2.cells (g := g2) rfl) (RepFF.move (fun q _ hq => hrel.below.block q hq) (fun q hq hq2 => ⟨hq, hq2⟩) _ _ hrel.rep)
      rw [hlen2, st_eq] at hcon
      have HCON := Lib.hid hcon
      clear hrel hcon hlen2
      go_wp2_with fail
      refine HCON.out.mono ?_
      rintro e w5 ⟨hb5, v5, rfl, hr5⟩
      obtain ⟨u5, A5, n5, d5, rfl⟩ := repS_shape (RepSF.rep _ _ hr5)
      have hret5 := HREL.out.ret.below hb5 hsw
      obtain ⟨r0, r1, z0, z1⟩ := blk_cells hret5
      have hbb5 := HREL.out.below.trans (hb5.mono (by omega))
      have HR5 := Lib.hid (repSF_below hr5)
      clear hr5 hret5 hb5
      go_wp2_with fail
      refine bodyPost_ret (v := .agg #[.string ⟨u5.toArray⟩, .slice A5 n5 d5]) ?_ rfl ?_
      · simp [results, Tryz.results102, go_sem, r0, r1]
      · refine TreePost.mk rfl ?_ ((hbb5.setCell (by simp) _).setCell (by simp) _)
        rw [← bagTo_all b b.length rfl]
        refine RepSF.move ?_ ?_ _ _ HR5.out
        · intro k hk _
          have hk1 := hk.1
          rw [Below.heap_setCell _ _ _ _ (by show k ≠ w.heap.size; omega), Below.heap_setCell _ _ _ _ (by show k ≠ w.heap.size; omega)]
        · intro k hk _
          rcases hk.1 with h | h
          · exact .inl h.1
          · exact .inr (by omega)

end Go.Proofs.YtopmkddmllmecaaGreatDoor
