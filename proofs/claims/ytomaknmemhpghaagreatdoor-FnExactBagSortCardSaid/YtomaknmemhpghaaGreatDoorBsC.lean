/- The program's BagSort. -/
import Derived.Test.YtomaknmemhpghaaGreatDoorBsB
import Derived.Test.YtomaknmemhpghaaGreatDoorImpZ
import Derived.Test.YtomaknmemhpghaaGreatDoorSwE
namespace Go.Proofs.YtomaknmemhpghaaGreatDoor
open Go.RowKit Rt Go.Lib
open Go.ChangeMaps Go.MapKept Go.Maps Go.WideMaps

/-- The terms of a list of texts. -/
def termsOf : List ByteArray → Option (List Term)
  | [] => some []
  | s :: l => match termOf s.data.toList with
    | none => none
    | some t => (termsOf l).map (t :: ·)

/-- What BagSort tells. -/
def bagRes (ss : List ByteArray) : B × Bool := match termsOf ss with
  | some ts => if 2 + sizes ts ≤ 60 then (bagT (sortBag ts), true) else ([], false)
  | none => ([], false)

theorem termsOf_snoc : ∀ (ss : List ByteArray) (k : Nat) (s : ByteArray) (ts : List Term) (t : Term), ss[k]? = some s → termsOf (ss.take k) = some ts → termOf s.data.toList = some t → termsOf (ss.take (k + 1)) = some (ts ++ [t])
  | [], k, s, ts, t, h, _, _ => by simp at h
  | x :: ss, 0, s, ts, t, h, h2, h3 => by
    simp at h; subst h
    simp [termsOf] at h2; subst h2
    simp [termsOf, h3]
  | x :: ss, k + 1, s, ts, t, h, h2, h3 => by
    rw [List.take_succ_cons, termsOf] at h2 ⊢
    cases hx : termOf x.data.toList with
    | none => rw [hx] at h2; cases h2
    | some u =>
      rw [hx] at h2
      simp only [Option.map_eq_some_iff] at h2
      obtain ⟨ts', e1, rfl⟩ := h2
      simp only
      rw [termsOf_snoc ss k s ts' t (by simpa using h) e1 h3]
      rfl

theorem termsOf_none : ∀ (ss : List ByteArray) (k : Nat) (s : ByteArray), ss[k]? = some s → termOf s.data.toList = none → termsOf ss = none
  | [], k, s, h, _ => by simp at h
  | x :: ss, 0, s, h, h2 => by simp at h; subst h; rw [termsOf, h2]
  | x :: ss, k + 1, s, h, h2 => by
    rw [termsOf]
    cases termOf x.data.toList with
    | none => rfl
    | some u => simp only; rw [termsOf_none ss k s (by simpa using h) h2]; rfl

/-- Of a list of terms a part has no greater size. -/
theorem termsOf_part : ∀ (ss : List ByteArray) (k : Nat) (ts us : List Term), termsOf (ss.take k) = some ts → termsOf ss = some us → sizes ts ≤ sizes us
  | [], k, ts, us, h, _ => by simp [termsOf] at h; subst h; simp [sizes]
  | x :: ss, 0, ts, us, h, _ => by simp [termsOf] at h; subst h; simp [sizes]
  | x :: ss, k + 1, ts, us, h, h2 => by
    rw [List.take_succ_cons, termsOf] at h
    rw [termsOf] at h2
    cases hx : termOf x.data.toList with
    | none => rw [hx] at h; cases h
    | some u =>
      rw [hx] at h h2
      simp only [Option.map_eq_some_iff] at h h2
      obtain ⟨a, e1, rfl⟩ := h
      obtain ⟨b, e2, rfl⟩ := h2
      have := termsOf_part ss k a b e1 e2
      simp only [sizes]; omega

theorem termsOf_ok : ∀ (ss : List ByteArray) (ts : List Term), termsOf ss = some ts → ts.length = ss.length ∧ oks 0 ts = true ∧ ∀ u ∈ ts, size u ≤ 60
  | [], ts, h => by simp [termsOf] at h; subst h; simp [oks]
  | x :: ss, ts, h => by
    rw [termsOf] at h
    cases hx : termOf x.data.toList with
    | none => rw [hx] at h; cases h
    | some u =>
      rw [hx] at h
      simp only [Option.map_eq_some_iff] at h
      obtain ⟨a, e1, rfl⟩ := h
      obtain ⟨h1, h2, h3⟩ := termsOf_ok ss a e1
      obtain ⟨o1, o2⟩ := termOf_ok _ u hx
      refine ⟨by simp [h1], by rw [oks, o1, h2]; rfl, ?_⟩
      intro v hv
      rcases List.mem_cons.1 hv with rfl | hv
      · exact o2
      · exact h3 v hv

/-- What holds at the head of BagSort's loop. -/
structure BsRel (F : Nat → Prop) (w wr : World) (p m n : Nat) (ss : List ByteArray) (k : Nat) (ts : List Term) (sv : Value) (xs : List Value) (D : DataW Value) (n' : Nat) : Prop where
  le : k ≤ ss.length
  res : termsOf (ss.take k) = some ts
  small : 2 + sizes ts ≤ 60
  own : wr.ownsRow w.heap.size 48 1 sv k xs
  rep : RepPsF (Foot F w sv) wr ts xs
  pool : Pool (Foot F w sv) wr p m n' D
  cnt : n' ≤ n + 4000 * k
  grown : w.grownBy wr (some m)

set_option maxRecDepth 100000 in
/-- One term more. -/
theorem BsRel.next {F : Nat → Prop} {w wr w1 w3 : World} {p m n : Nat} {ss : List ByteArray} {ts : List Term} {sb : ByteArray} {j : Nat} {g' c' g3 c3 n' n1 : Nat} {xs : List Value} {D' D1 : DataW Value} {t : Term} {u : Value}
    (h : BsRel F w wr p m n ss j ts (.slice (some ⟨g', 0, none⟩) j c') xs D' n') (hw : p + 1 ≤ w.heap.size) (hm : m + 1 ≤ w.heap.size) (hFm : ¬ F m) (hx : ss[j]? = some sb) (ht : termOf sb.data.toList = some t) (hlt : j < ss.length) (hsm : 2 + sizes ts + size t ≤ 60)
    (hg1 : wr.grownBy w1 (some m)) (hn1 : n1 ≤ n' + 4000) (hu : RepPF (fun k => Foot F w (.slice (some ⟨g', 0, none⟩) j c') k ∨ wr.heap.size ≤ k) w1 t u) (hp : Pool (fun k => Foot F w (.slice (some ⟨g', 0, none⟩) j c') k ∨ wr.heap.size ≤ k) w1 p m n1 D1)
    (hown3 : w3.ownsRow w.heap.size 48 1 (.slice (some ⟨g3, 0, none⟩) (j + 1) c3) (j + 1) (xs ++ [u])) (hgrow3 : (w1.alloc (.cells #[u] 48)).grownBy w3 (some g')) (hat : g3 = g' ∨ w1.heap.size + 1 ≤ g3) :
    BsRel F w w3 p m n ss (j + 1) (ts ++ [t]) (.slice (some ⟨g3, 0, none⟩) (j + 1) c3) (xs ++ [u]) D1 n1 := by
  obtain ⟨hgb, hgl⟩ := own_block_lt h.own g' rfl
  have hs0 := h.grown.size
  have hs1 := hg1.size
  have hs3 : w1.heap.size + 1 ≤ w3.heap.size := by have := hgrow3.size; simpa using this
  have h31 : ∀ k, k < w1.heap.size → k ≠ g' → w3.heap[k]? = w1.heap[k]? := by
    intro k hk hne
    rw [hgrow3.block k (by simp; omega) (by intro e; injection e with e; exact hne e), Below.heap_alloc _ _ _ hk]
  have h1r : ∀ k, k < wr.heap.size → k ≠ m → w1.heap[k]? = wr.heap[k]? := fun k hk hne => hg1.block k hk (by intro e; injection e with e; exact hne e)
  have hfoot : ∀ k, Foot F w (.slice (some ⟨g', 0, none⟩) j c') k → k ≠ g' ∧ (F k ∨ w.heap.size ≤ k) := by
    rintro k ⟨h1, h2⟩
    exact ⟨fun e => h2 (by simp [Value.ownBlock, e]), h1⟩
  have hmk : ∀ k, (F k ∨ w.heap.size ≤ k) → k < w1.heap.size → k ≠ g' → Foot F w (.slice (some ⟨g3, 0, none⟩) (j + 1) c3) k := by
    intro k h1 h2 h3
    refine ⟨h1, ?_⟩
    simp [Value.ownBlock]
    rcases hat with e | e <;> omega
  have hne : ∀ k, (F k ∨ w.heap.size ≤ k) → k ≠ m := by
    rintro k (h1 | h1) e
    · exact hFm (e ▸ h1)
    · omega
  have hsz : sizes (ts ++ [t]) = sizes ts + size t := by rw [sizes_sum, sizes_sum]; simp
  refine ⟨hlt, termsOf_snoc ss j sb ts t hx h.res ht, by omega, hown3, ?_, ?_, ?_, ?_⟩
  · refine RepPsF.append _ _ _ _ ?_ ?_
    · refine RepPsF.move ?_ ?_ _ _ h.rep
      · intro k hk hk2
        obtain ⟨a1, a2⟩ := hfoot k hk
        rw [h31 k (by omega) a1, h1r k hk2 (hne k a2)]
      · intro k hk hk2
        obtain ⟨a1, a2⟩ := hfoot k hk
        exact hmk k a2 (by omega) a1
    · rw [RepPsF]
      refine ⟨u, [], rfl, RepPF.move ?_ ?_ _ _ hu, by rw [RepPsF]⟩
      · rintro k (hk | hk) hk2
        · exact h31 k hk2 (hfoot k hk).1
        · exact h31 k hk2 (by omega)
      · rintro k (hk | hk) hk2
        · exact hmk k (hfoot k hk).2 hk2 (hfoot k hk).1
        · exact hmk k (.inr (by omega)) hk2 (by omega)
  · refine hp.go (h31 p (by omega) (by omega)) (h31 m (by omega) (by omega)) ?_ ?_ ?_
    · rintro k (hk | hk) hk2
      · exact h31 k hk2 (hfoot k hk).1
      · exact h31 k hk2 (by omega)
    · rintro k (hk | hk) hk2
      · exact hmk k (hfoot k hk).2 hk2 (hfoot k hk).1
      · exact hmk k (.inr (by omega)) hk2 (by omega)
    · rintro ⟨h1 | h1, _⟩
      · exact hFm h1
      · omega
  · have := h.cnt
    omega
  · have hG := h.grown.trans hg1
    refine ⟨hgrow3.os.trans hG.os, hgrow3.tape.trans hG.tape, hgrow3.output.trans hG.output, by omega, ?_⟩
    intro k hk hne'
    rw [h31 k (by omega) (by omega)]
    exact hG.block k hk hne'


theorem bagT_len (ts : List Term) (h : oks 0 ts = true) : (bagT ts).length ≤ 12 * sizes ts + 3 := by
  have h1 := texts_size 0 ts h
  have h2 := Rt.text_app (.ix 0) ts
  have h3 : text (.app (.ix 0) ts) = [40, 97, 112, 112, 32] ++ text (.ix 0) ++ [32] ++ bagT ts ++ [41] := text_app (.ix 0) ts
  rw [h3] at h2
  simp only [List.length_append, List.length_cons, List.length_nil] at h2
  omega

set_option maxHeartbeats 3200000 in
set_option maxRecDepth 100000 in
theorem implBagSort (A : Option Addr) (c : Nat) (ss : List ByteArray) (w : World) (hn : ss.length ≤ 1048576) (hs : ∀ s ∈ ss, s.size ≤ maxLen) (hA : Texts w A ss) :
    Calls Tryz.prog 45 #[.slice A ss.length c] w fun e w' => e = .returned (.tuple #[st (bagRes ss).1, .bool (bagRes ss).2]) ∧ Below w.heap.size w w' := by
  obtain ⟨i0, hi0, hz0, hz1, hz2⟩ := info_parts term_info
  have HT : Hid (bagRes ss = match termsOf ss with | some ts => if 2 + sizes ts ≤ 60 then (bagT (sortBag ts), true) else ([], false) | none => ([], false)) := rfl
  have HA := Lib.hid hA
  have HS := Lib.hid hs
  generalize bagRes ss = x at HT ⊢
  clear hA hs
  go_enter Tryz.func45, Tryz.ntmps45
  go_wp2_with fail
  refine (newTermPool_any _).mono ?_
  rintro e w1 ⟨rfl, hb1, hz, hP⟩
  have HB1 := Lib.hid hb1
  have HP := Lib.hid hP
  have hzz : w.heap.size + 2 ≤ w1.heap.size := by omega
  clear hb1 hP hz
  go_wp2_with fail
  go_loopw [5, 6, 15] (fun zv sv iv wr => ∃ k ts xs D n', iv = .int .i64 (k : Nat) ∧ zv = .int .i64 ((2 : Int) + (sizes ts : Nat)) ∧ (∃ g' c', sv = .slice (some ⟨g', 0, none⟩) k c') ∧ Hid (BsRel (fun _ => False) w1 wr (w.heap.size + 1) w.heap.size 0 ss k ts sv xs D n')) (fun _ _ iv _ => ss.length - (intOf iv).toNat)
  case atStart =>
    refine ⟨0, [], [], .map [], 0, rfl, by simp [sizes], ⟨_, _, rfl⟩, ⟨Nat.zero_le _, rfl, by simp [sizes], own_new w1 48 #[] 0 1 w1.heap.size (Nat.le_refl _) rfl (by decide), by rw [RepPsF], ?_, by omega, ⟨rfl, rfl, rfl, by simp, fun k' hk' _ => Below.heap_alloc w1 _ k' hk'⟩⟩⟩
    refine HP.out.go (Below.heap_alloc w1 _ _ HP.out.plt) (Below.heap_alloc w1 _ _ HP.out.map.lt) (fun k' _ hk' => Below.heap_alloc w1 _ k' hk') (fun k' hk' hk2 => hk'.elim) ?_
    rintro ⟨h | h, _⟩
    · exact h
    · omega
  case round =>
    obtain ⟨k, ts, xs, D', n', rfl, rfl, ⟨g', c', rfl⟩, hrel⟩ := hrel
    have hj := hrel.out.le
    have hsm := hrel.out.small
    have htk := termsOf_ok _ _ hrel.out.res
    have hkl : k ≤ 58 := by
      have h1 := bag_short ts
      have h2 := htk.1
      simp at h2
      omega
    have HTK := Lib.hid htk
    clear htk
    by_cases hlt : k < ss.length
    · obtain ⟨s, hsk⟩ : ∃ s, ss[k]? = some s := ⟨_, List.getElem?_eq_getElem hlt⟩
      obtain ⟨g, o, rfl, e0⟩ := HA.out k s hsk
      have hgw := World.block_lt_of_cell? w _ e0
      have hgr := hrel.out.grown
      have e1 : wr.cell? ⟨g, o + k, none⟩ = some (.string s) := by
        have h1 : w1.cell? ⟨g, o + k, none⟩ = some (.string s) := (HB1.out.cell (p := ⟨g, o + k, none⟩) hgw).trans e0
        exact grown_cell hgr (by have : g < w.heap.size := hgw; omega) h1
      have hcnt := hrel.out.cnt
      have HC := Lib.hid (read_any (Foot (fun _ => False) w1 (.slice (some ⟨g', 0, none⟩) k c')) _ _ n' D' s (HS.out s (List.mem_of_getElem? hsk)) wr (by omega) hrel.out.pool)
      have HX := Lib.hid hsk
      have HGR := Lib.hid hgr
      clear e0 hgr hsk
      cases ht : termOf s.data.toList with
      | none =>
        rw [ht] at HC
        have HXX : Hid (x = ([], false)) := by show _ = _; rw [HT.out, termsOf_none ss k s HX.out ht]
        clear ht
        go_wp2_with (go_at_call 52; refine HC.out.mono ?_; rintro e w2 ⟨hg2, rfl⟩; have HG2 := Lib.hid hg2; clear hg2)
        go_ret2
        exact ⟨by rw [HXX.out]; rfl, below_pool HB1.out (HGR.out.trans HG2.out)⟩
      | some t =>
        rw [ht] at HC
        have HTT := Lib.hid ht
        clear ht
        have htp := size_pos t
        by_cases hz : 2 + sizes ts + size t ≤ 60
        · go_wp2_with (first
            | (go_at_call 52; refine HC.out.mono ?_; rintro e w2 ⟨hg2, u, D1, n1, rfl, hn1, hu, hp⟩; obtain ⟨ub, _, _, _, rfl, h6, -⟩ := RepPF.head _ _ hu; obtain ⟨-, -, c2, -⟩ := h6; have HG2 := Lib.hid hg2; have HU := Lib.hid hu; have HPP := Lib.hid hp; have hown2 := hrel.out.own.kept hg2 (.inr (fun e => by have := (own_block_lt hrel.out.own _ e).1; omega)); have HOWN := Lib.hid hown2; clear hg2 hu hp hown2)
            | (at_builtin; refine wpList_append_own_at _ rfl _ _ 59 rfl w1.heap.size 48 i0 (.pointer none) 1 8 Tryz.underlying59 hi0 hz0 hz1 hz2 rfl (Nat.succ_pos 0) (.slice (some ⟨g', 0, none⟩) k c') k xs rfl (HOWN.out.alloc _) ⟨w2.heap.size, 0, none⟩ 1 1 [.pointer (some ⟨ub, 0, none⟩)] rfl rfl (cell_one_new _ _ _) ?_ ?_ ?_ ?_ ?_))
          · intro u' hu'
            simp at hu'; subst hu'; rfl
          · unfold maxLen; omega
          · omega
          · have := HGR.out.size
            have := HG2.out.size
            simp; omega
          · intro v' w3 hown3 hgrow3 _ hat3
            obtain ⟨A3, c3, rfl⟩ := own_shape hown3
            obtain ⟨g3, rfl, -⟩ := own_cells hown3 (Nat.succ_pos _)
            have hrel3 := hrel.out.next HP.out.plt HP.out.map.lt (fun h => h) HX.out HTT.out hlt hz HG2.out hn1 HU.out HPP.out hown3 hgrow3 (by
              rcases hat3 with e | e
              · simp [Value.ownBlock] at e; exact .inl e
              · simp [Value.ownBlock] at e; exact .inr (by omega))
            have HREL3 := Lib.hid hrel3
            have HSZ : Hid ((2 : Int) + (sizes ts : Nat) + (size t : Nat) = (2 : Int) + (sizes (ts ++ [t]) : Nat)) := by
              show _ = _
              have : sizes (ts ++ [t]) = sizes ts + size t := by rw [sizes_sum, sizes_sum]; simp
              rw [this]; push_cast; omega
            clear hown3 hgrow3 hat3 hrel3
            go_wp2_with fail
            go_roundw
            case rel => exact ⟨k + 1, ts ++ [t], _, D1, n1, by go_num, by rw [HSZ.out], ⟨_, _, rfl⟩, HREL3.out⟩
            case measure => simp [intOf]; omega
        · have HXX : Hid (x = ([], false)) := by
            show _ = _
            rw [HT.out]
            cases hts : termsOf ss with
            | none => rfl
            | some us =>
              have h1 := termsOf_part ss (k + 1) _ us (termsOf_snoc ss k s ts t HX.out hrel.out.res HTT.out) hts
              have : sizes (ts ++ [t]) = sizes ts + size t := by rw [sizes_sum, sizes_sum]; simp
              simp only
              rw [if_neg (by omega)]
          have ht60 : size t ≤ 60 := (termOf_ok _ t HTT.out).2
          go_wp2_with (go_at_call 52; refine HC.out.mono ?_; rintro e w2 ⟨hg2, u, D1, n1, rfl, hn1, hu, hp⟩; obtain ⟨ub, _, _, _, rfl, h6, -⟩ := RepPF.head _ _ hu; obtain ⟨-, -, c2, -⟩ := h6; have HG2 := Lib.hid hg2; clear hg2 hu hp)
          go_ret2
          exact ⟨by rw [HXX.out]; rfl, below_pool HB1.out (HGR.out.trans HG2.out)⟩
    · obtain rfl : k = ss.length := by omega
      have hres := hrel.out.res
      rw [List.take_of_length_le (Nat.le_refl _)] at hres
      have HXX : Hid (x = (bagT (sortBag ts), true)) := by show _ = _; rw [HT.out, hres]; simp only; rw [if_pos hsm]
      have hlen : ts.length = ss.length := by have := HTK.out.1; simpa using this
      have hgr := hrel.out.grown
      have hcell : Cells wr g' xs := by
        intro i u hu
        have hpos : 0 < ss.length := by
          have h1 := RepPsF.length _ _ hrel.out.rep
          have h2 := (List.getElem?_eq_some_iff.1 hu).1
          omega
        obtain ⟨g4, e1, _, _, _, _, h5⟩ := own_cells hrel.out.own hpos
        injection e1 with e1
        injection e1 with e1
        subst e1
        exact h5 i u hu
      have hSB := sortedBag_any (fun q => q < wr.heap.size) ts 0 g' c' xs wr HTK.out.2.1 (by omega) (fun _ h => h) hcell (RepPsF.move (fun _ _ _ => rfl) (fun k _ hk => hk) _ _ hrel.out.rep)
      rw [hlen] at hSB
      have HSB := Lib.hid hSB
      have hsb : (sortBag ts).length = ss.length := by rw [← hlen]; exact (sortBag_perm ts).length_eq
      have HLEN := Lib.hid hlen
      have hbt : (bagT (sortBag ts)).length ≤ 1000000 := by
        have h1 := bagT_len (sortBag ts) (by rw [oks_perm 0 _ _ (sortBag_perm ts)]; exact HTK.out.2.1)
        have h2 := sizes_perm _ _ (sortBag_perm ts)
        omega
      have HBT : Hid (∀ (w2 : World) (g2 c2 : Nat) (ys : List Value), ss.length ≤ c2 → c2 ≤ maxLen → Cells w2 g2 ys → RepPsF (fun q => q < wr.heap.size) w2 (sortBag ts) ys → Calls Tryz.prog 81 #[.slice (some ⟨g2, 0, none⟩) ss.length c2] w2 fun e w' => e = .returned (st (bagT (sortBag ts))) ∧ Below w2.heap.size w2 w') := by
        intro w2 g2 c2 ys h1 h2 h3 h4
        exact bagText_any (fun _ => True) (sortBag ts) _ ys w2 (by omega) hbt ⟨_, c2, by rw [hsb], by rw [hsb]; exact h1, h2, fun _ => ⟨g2, rfl, h3, trivial⟩⟩ (RepPsF.move (fun _ _ _ => rfl) (fun _ _ _ => trivial) _ _ h4)
      have HGR := Lib.hid hgr
      rw [st_eq] at HBT
      generalize bagT (sortBag ts) = bt at HBT HXX
      clear hres hgr hcell hSB hsb hbt hlen
      go_wp2_with (first
        | (go_at_call 82; refine HSB.out.mono ?_; rintro e w2 ⟨hb2, g2, c2, ys, rfl, -, -, q4, q5, q6, q7⟩; rw [HLEN.out] at q4; rw [HLEN.out]; have HB2 := Lib.hid hb2; have HBB := Lib.hid (HBT.out w2 g2 c2 ys q4 q5 q6 q7); clear hb2 q4 q5 q6 q7)
        | (go_at_call 81; refine HBB.out.mono ?_; rintro e w3 ⟨rfl, hb3⟩; have HB3 := Lib.hid hb3; clear hb3))
      go_ret2
      have h1 := below_pool HB1.out HGR.out
      have h2 := h1.trans (HB2.out.mono h1.size)
      exact ⟨by rw [HXX.out]; rfl, h2.trans (HB3.out.mono h2.size)⟩

end Go.Proofs.YtomaknmemhpghaaGreatDoor
