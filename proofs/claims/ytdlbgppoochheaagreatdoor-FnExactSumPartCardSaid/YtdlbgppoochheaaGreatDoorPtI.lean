/- The program's fractions: parts. The program's SumPart. -/
import Derived.Test.YtdlbgppoochheaaGreatDoorImV
namespace Go.Proofs.YtdlbgppoochheaaGreatDoor
open Go.RowKit Rt Go.Lib
open Go.ChangeMaps Go.MapKept Go.Maps Go.WideMaps

theorem nw_small {x : Nat} (h : x ≤ 1000000000) : nw x ≤ 1 := by
  unfold nw
  split
  · omega
  · rw [if_pos (by omega)]; exact Nat.le_refl _

set_option maxHeartbeats 3200000 in
set_option maxRecDepth 100000 in
theorem parts_any (v : Value) (s : Bool) (t b : Nat) (w : World) (ht : t ≤ 1000000000) (hb : b ≤ 1000000000) (hf : FracRep w v s t b) :
    Calls Tryz.prog 29 #[v] w fun e w' => e = .returned (.tuple #[.int .i64 (if s then -(t : Int) else (t : Int)), .int .i64 (b : Nat), .bool true]) ∧ Below w.heap.size w w' := by
  obtain ⟨x, y, rfl, hx, hy⟩ := hf
  obtain ⟨A1, n1, c1, rfl, -, -, -, e1⟩ := hx.shape
  obtain ⟨A2, n2, c2, rfl, -, -, -, e2⟩ := hy.shape
  have q1 : n1 ≤ 1 := by rw [e1]; exact nw_small ht
  have q2 : n2 ≤ 1 := by rw [e2]; exact nw_small hb
  have d1 : decide ((n1 : Int) > 1) = false := by rw [decide_eq_false_iff_not]; omega
  have d2 : decide ((n2 : Int) > 1) = false := by rw [decide_eq_false_iff_not]; omega
  have d3 : decide ((t : Int) > 1000000000) = false := by rw [decide_eq_false_iff_not]; omega
  have d4 : decide ((b : Int) > 1000000000) = false := by rw [decide_eq_false_iff_not]; omega
  have f1 : IntKind.i64.wrap (t : Int) = (t : Int) := IntWalk.i64_in _ (by omega)
  have f2 : IntKind.i64.wrap (b : Int) = (b : Int) := IntWalk.i64_in _ (by omega)
  have f3 : IntKind.i64.wrap (-(t : Int)) = -(t : Int) := IntWalk.i64_in _ (by omega)
  have HX := Lib.hid hx
  have HY := Lib.hid hy
  have HK0 := Lib.hid (Blk.new w 58 #[.bool s, .slice A1 n1 c1, .slice A2 n2 c2])
  have HB0 : Hid (Below w.heap.size w (w.alloc (.cells #[.bool s, .slice A1 n1 c1, .slice A2 n2 c2] 58))) := below_alloc (Below.refl _ w) _
  clear hx hy e1 e2 q1 q2
  have hse : s = true ∨ s = false := by cases s <;> simp
  rcases hse with rfl | rfl
  · go_enter Tryz.func29, Tryz.ntmps29
    go_wp2_with fail
    refine (word_any _ t _ (HX.out.below HB0.out)).mono ?_
    rintro e w1 ⟨rfl, hb1⟩
    have HB1 := Lib.hid (HB0.out.trans (hb1.mono HB0.out.size))
    have HK1 := Lib.hid (HK0.out.below hb1 HK0.out.lt)
    obtain ⟨a1, b1, c1⟩ := blk_three HK1.out
    clear hb1
    go_wp2_with fail
    clear a1 b1 c1
    refine (word_any _ b _ (HY.out.below HB1.out)).mono ?_
    rintro e w2 ⟨rfl, hb2⟩
    have HB2 := Lib.hid (HB1.out.trans (hb2.mono HB1.out.size))
    have HK2 := Lib.hid (HK1.out.below hb2 HK1.out.lt)
    obtain ⟨a2, b2, c2⟩ := blk_three HK2.out
    clear hb2
    go_wp2_with fail
    clear a2 b2 c2
    refine (word_any _ t _ (HX.out.below HB2.out)).mono ?_
    rintro e w3 ⟨rfl, hb3⟩
    have HB3 := Lib.hid (HB2.out.trans (hb3.mono HB2.out.size))
    have HK3 := Lib.hid (HK2.out.below hb3 HK2.out.lt)
    obtain ⟨a3, b3, c3⟩ := blk_three HK3.out
    clear hb3
    go_wp2_with fail
    clear a3 b3 c3
    refine (word_any _ b _ (HY.out.below HB3.out)).mono ?_
    rintro e w4 ⟨rfl, hb4⟩
    have HB4 := Lib.hid (HB3.out.trans (hb4.mono HB3.out.size))
    have HK4 := Lib.hid (HK3.out.below hb4 HK3.out.lt)
    obtain ⟨a4, b4, c4⟩ := blk_three HK4.out
    clear hb4
    go_wp2_with fail
    refine bodyPost_ret (v := .tuple #[.int .i64 (-(t : Int)), .int .i64 (b : Nat), .bool true]) ?_ rfl ?_
    · simp [results, Tryz.results29, go_sem]
    · exact ⟨rfl, HB4.out⟩
  · go_enter Tryz.func29, Tryz.ntmps29
    go_wp2_with fail
    refine (word_any _ t _ (HX.out.below HB0.out)).mono ?_
    rintro e w1 ⟨rfl, hb1⟩
    have HB1 := Lib.hid (HB0.out.trans (hb1.mono HB0.out.size))
    have HK1 := Lib.hid (HK0.out.below hb1 HK0.out.lt)
    obtain ⟨a1, b1, c1⟩ := blk_three HK1.out
    clear hb1
    go_wp2_with fail
    clear a1 b1 c1
    refine (word_any _ b _ (HY.out.below HB1.out)).mono ?_
    rintro e w2 ⟨rfl, hb2⟩
    have HB2 := Lib.hid (HB1.out.trans (hb2.mono HB1.out.size))
    have HK2 := Lib.hid (HK1.out.below hb2 HK1.out.lt)
    obtain ⟨a2, b2, c2⟩ := blk_three HK2.out
    clear hb2
    go_wp2_with fail
    clear a2 b2 c2
    refine (word_any _ t _ (HX.out.below HB2.out)).mono ?_
    rintro e w3 ⟨rfl, hb3⟩
    have HB3 := Lib.hid (HB2.out.trans (hb3.mono HB2.out.size))
    have HK3 := Lib.hid (HK2.out.below hb3 HK2.out.lt)
    obtain ⟨a3, b3, c3⟩ := blk_three HK3.out
    clear hb3
    go_wp2_with fail
    clear a3 b3 c3
    refine (word_any _ b _ (HY.out.below HB3.out)).mono ?_
    rintro e w4 ⟨rfl, hb4⟩
    have HB4 := Lib.hid (HB3.out.trans (hb4.mono HB3.out.size))
    have HK4 := Lib.hid (HK3.out.below hb4 HK3.out.lt)
    obtain ⟨a4, b4, c4⟩ := blk_three HK4.out
    clear hb4
    go_wp2_with fail
    refine bodyPost_ret (v := .tuple #[.int .i64 (t : Int), .int .i64 (b : Nat), .bool true]) ?_ rfl ?_
    · simp [results, Tryz.results29, go_sem]
    · exact ⟨rfl, HB4.out⟩

/-- Where a text is in a sum. -/
def findAt (ss : List ByteArray) (l : B) : Option Nat := (List.range ss.length).find? (fun j => decide (sAt ss j = l))

/-- What SumPart gives. -/
def partRes (ss : List ByteArray) (ts bs : List Int) (l : B) : Int × Int × Bool :=
  match sumOk ss ts bs, termOf l, findAt ss l with
  | true, some _, some j => (ts.getD j 0, bs.getD j 0, true)
  | true, some _, none => (0, 1, true)
  | _, _, _ => (0, 0, false)

theorem sumOk_items {ss : List ByteArray} {ts bs : List Int} (h : sumOk ss ts bs = true) : ss.length ≤ 300 ∧ ts.length = ss.length ∧ bs.length = ss.length ∧ ∀ i, i < ss.length → itemOk ss ts bs i = true := by
  unfold sumOk at h
  simp only [Bool.and_eq_true, decide_eq_true_eq, List.all_eq_true, List.mem_range] at h
  exact ⟨h.1.1.1, h.1.1.2, h.1.2, h.2⟩

theorem items_inj {ss : List ByteArray} {ts bs : List Int} (h : ∀ i, i < ss.length → itemOk ss ts bs i = true) {i j : Nat} (hi : i < ss.length) (hj : j < ss.length) (e : sAt ss i = sAt ss j) : i = j := by
  rcases Nat.lt_trichotomy i j with hh | hh | hh
  · exact absurd e (items_ne (k := j) (fun a ha => h a (by omega)) i hh)
  · exact hh
  · exact absurd e.symm (items_ne (k := i) (fun a ha => h a (by omega)) j hh)

theorem findAt_some {ss : List ByteArray} {ts bs : List Int} {l : B} (h : ∀ i, i < ss.length → itemOk ss ts bs i = true) {j : Nat} (hj : j < ss.length) (e : sAt ss j = l) : findAt ss l = some j := by
  unfold findAt
  cases hf : (List.range ss.length).find? (fun j => decide (sAt ss j = l)) with
  | none =>
    rw [List.find?_eq_none] at hf
    have := hf j (List.mem_range.2 hj)
    simp [e] at this
  | some i =>
    have h1 := List.find?_some hf
    have h2 := List.mem_range.1 (List.mem_of_find?_eq_some hf)
    simp only [decide_eq_true_eq] at h1
    rw [items_inj h h2 hj (h1.trans e.symm)]

theorem findAt_none {ss : List ByteArray} {l : B} (h : ∀ j, j < ss.length → sAt ss j ≠ l) : findAt ss l = none := by
  unfold findAt
  rw [List.find?_eq_none]
  intro j hj
  simpa using h j (List.mem_range.1 hj)

theorem zeroFrac (w : World) : (zeroValue 58).run Tryz.prog w = .ok (.agg #[.bool false, .slice none 0 0, .slice none 0 0]) w := by kernel_rfl

theorem item_small2 {ss : List ByteArray} {ts bs : List Int} {k : Nat} (h : itemOk ss ts bs k = true) : smallF (ts.getD k 0) (bs.getD k 0) = true := by
  unfold itemOk at h
  simp only [Bool.and_eq_true] at h
  exact h.1.1.1.2

/-- What is asked of a triple. -/
def TripPost (w : World) (r : Int × Int × Bool) (e : Ending) (w' : World) : Prop := e = .returned (.tuple #[.int .i64 r.1, .int .i64 r.2.1, .bool r.2.2]) ∧ Below w.heap.size w w'

set_option maxHeartbeats 3200000 in
set_option maxRecDepth 100000 in
theorem implSumPart (A B C : Option Addr) (ca cb cc : Nat) (ss : List ByteArray) (ts bs : List Int) (s : ByteArray) (w : World) (hs : ∀ s ∈ ss, s.size ≤ maxLen) (hl1 : ss.length ≤ maxLen) (hl2 : ts.length ≤ maxLen) (hl3 : bs.length ≤ maxLen) (hm : s.size ≤ maxLen)
    (hA : Texts w A ss) (hB : Ints w B ts) (hC : Ints w C bs) :
    Calls Tryz.prog 12 #[.agg #[.slice A ss.length ca, .slice B ts.length cb, .slice C bs.length cc], .string s] w (TripPost w (partRes ss ts bs s.data.toList)) := by
  have HR : Hid (∀ (W : World) (p m : Nat), Below w.heap.size w W → Pool (fun _ => False) W p m 0 (.map []) → Calls Tryz.prog 24 #[.pointer (some ⟨p, 0, none⟩), .agg #[.slice A ss.length ca, .slice B ts.length cb, .slice C bs.length cc]] W (SumPost (fun _ => False) W p m 0 ss ts bs)) :=
    fun W p m hb hP => readSum_any _ p m 0 _ A B C ca cb cc ss ts bs W (by omega) hs hl1 hl2 hl3 (hA.below hb) (hB.below hb) (hC.below hb) hP
  have HRD : Hid (∀ (F : Nat → Prop) (p m n : Nat) (D : DataW Value) (W : World), n ≤ 800000 → Pool F W p m n D → Calls Tryz.prog 28 #[.pointer (some ⟨p, 0, none⟩), .string s] W (PartPost F W p m n 300 (termOf s.data.toList))) := fun F p m n D W hn hP => read_few F p m n D s hm W hn hP
  have hkey : keyOf Tryz.prog 9 (.string s) = some (.string s.data.toList) := keyOf_string_mk Tryz.underlying9 hm
  have HKEY := Lib.hid hkey
  have HBX := Lib.hid (Blk.new w 28 #[.slice A ss.length ca, .slice B ts.length cb, .slice C bs.length cc])
  have HB0 : Hid (Below w.heap.size w (w.alloc (.cells #[.slice A ss.length ca, .slice B ts.length cb, .slice C bs.length cc] 28))) := below_alloc (Below.refl _ w) _
  have HF0 : Hid (sumOk ss ts bs = false → partRes ss ts bs s.data.toList = (0, 0, false)) := fun h => by unfold partRes; rw [h]
  have HF1 : Hid (termOf s.data.toList = none → partRes ss ts bs s.data.toList = (0, 0, false)) := fun h => by unfold partRes; rw [h]; cases sumOk ss ts bs <;> rfl
  have HF2 : Hid (∀ t, sumOk ss ts bs = true → termOf s.data.toList = some t → (∀ j, j < ss.length → sAt ss j ≠ s.data.toList) → partRes ss ts bs s.data.toList = (0, 1, true)) := fun t h1 h2 h3 => by unfold partRes; rw [h1, h2, findAt_none h3]
  have HF3 : Hid (∀ t j, sumOk ss ts bs = true → termOf s.data.toList = some t → j < ss.length → sAt ss j = s.data.toList → partRes ss ts bs s.data.toList = (ts.getD j 0, bs.getD j 0, true)) := fun t j h1 h2 h3 h4 => by unfold partRes; rw [h1, h2, findAt_some (sumOk_items h1).2.2.2 h3 h4]
  generalize partRes ss ts bs s.data.toList = r at HF0 HF1 HF2 HF3 ⊢
  clear hs hA hB hC hkey
  go_enter Tryz.func12, Tryz.ntmps12
  go_wp2_with fail
  refine (newPool _).mono ?_
  rintro e w1 ⟨p, m, rfl, hb1, hmm, hP⟩
  have HB1 := Lib.hid (HB0.out.trans (hb1.mono HB0.out.size))
  have hx1 := HBX.out.below hb1 HBX.out.lt
  have hm1 : w.heap.size + 1 ≤ m := by simp at hmm; omega
  have HP := Lib.hid hP
  obtain ⟨a0, a1, a2⟩ := blk_three hx1
  clear hb1 hx1 hP hmm
  go_wp2_with fail
  refine (HR.out _ _ _ HB1.out HP.out).mono ?_
  intro e w2 hq
  obtain ⟨hg2, hr2⟩ := hq
  have HG2 : Hid (Below w.heap.size w w2) := by
    have h1 := HB1.out
    refine ⟨hg2.os.trans h1.os, hg2.tape.trans h1.tape, hg2.output.trans h1.output, Nat.le_trans h1.size hg2.size, fun q hq => ?_⟩
    rw [hg2.block q (by have := h1.size; omega) (by intro e; injection e with e; omega)]
    exact h1.block q hq
  cases hx : sumOk ss ts bs
  · rw [hx] at hr2
    have hr3 : e = .returned (.tuple #[.map none, .bool false]) := hr2
    subst hr3
    have HX : Hid (r = (0, 0, false)) := HF0.out hx
    clear hg2 hr2 hx a0 a1 a2
    go_wp2_with fail
    refine bodyPost_ret (v := .tuple #[.int .i64 0, .int .i64 0, .bool false]) ?_ rfl ?_
    · simp [results, Tryz.results12, go_sem]
    · exact ⟨by rw [HX.out], HG2.out⟩
  · rw [hx] at hr2
    obtain ⟨mm, D, n', Dm, rfl, hn', hmm2, hP2, hM2⟩ := hr2
    have HOK := Lib.hid hx
    have HIT := Lib.hid (sumOk_items hx)
    have HM2 := Lib.hid hM2
    have hss := HIT.out.1
    have HRD2 := Lib.hid (HRD.out _ p m n' D w2 (by omega) hP2)
    have HP2 := Lib.hid hP2
    have hw1 := HB1.out.size
    clear hg2 hx hP2 hM2 a0 a1 a2
    go_wp2_with fail
    refine HRD2.out.mono ?_
    intro e w3 hq
    cases ht : termOf s.data.toList with
    | none =>
      rw [ht] at hq
      obtain ⟨hg3, rfl⟩ := hq
      have HX : Hid (r = (0, 0, false)) := HF1.out ht
      have HG3 : Hid (Below w.heap.size w w3) := by
        have h1 := HG2.out
        refine ⟨hg3.os.trans h1.os, hg3.tape.trans h1.tape, hg3.output.trans h1.output, Nat.le_trans h1.size hg3.size, fun q hq => ?_⟩
        rw [hg3.block q (by have := h1.size; omega) (by intro e; injection e with e; omega)]
        exact h1.block q hq
      clear hg3 ht
      go_wp2_with fail
      refine bodyPost_ret (v := .tuple #[.int .i64 0, .int .i64 0, .bool false]) ?_ rfl ?_
      · simp [results, Tryz.results12, go_sem]
      · exact ⟨by rw [HX.out], HG3.out⟩
    | some t =>
      rw [ht] at hq
      obtain ⟨hg3, v3, D3, n3, rfl, hn3, hv3, hP3⟩ := hq
      obtain ⟨b3, _, _, _, rfl, -, -⟩ := RepPF.head _ _ hv3
      have HG3 : Hid (Below w.heap.size w w3) := by
        have h1 := HG2.out
        refine ⟨hg3.os.trans h1.os, hg3.tape.trans h1.tape, hg3.output.trans h1.output, Nat.le_trans h1.size hg3.size, fun q hq => ?_⟩
        rw [hg3.block q (by have := h1.size; omega) (by intro e; injection e with e; omega)]
        exact h1.block q hq
      have hmm3 : mm ≠ m := by have := HP.out.map.lt; omega
      have HM3 := Lib.hid (HM2.out.kept HP2.out.map hmm3 hg3)
      have HTO := Lib.hid ht
      obtain ⟨v, ps, hrun, hv⟩ := HM3.out.1.look_ok (t := 44) (string_keyed Tryz.underlying9) Tryz.underlying44 (zeroFrac _) (zd := .held (.agg #[.bool false, .slice none 0 0, .slice none 0 0])) (zp := []) rfl HKEY.out
      clear hg3 hv3 hP3 ht
      cases hh : Maps.has Dm (.string s.data.toList)
      · have HX : Hid (r = (0, 1, true)) := HF2.out t HOK.out HTO.out (fun j hj e => by
          obtain ⟨_, _, h3, _⟩ := HM3.out.2.2.2 j hj
          rw [e, hh] at h3
          cases h3)
        have hv2 : v = .agg #[.bool false, .slice none 0 0, .slice none 0 0] := by
          have h5 := Maps.atKey_of_not_has (D := Dm) hh (.held (.agg #[.bool false, .slice none 0 0, .slice none 0 0]))
          rw [h5] at hv
          simp only [RV, Option.some.injEq, Prod.mk.injEq, DataW.held.injEq] at hv
          exact hv.1
        subst hv2
        rw [hh] at hrun
        clear hv hh
        have HG4 : Hid (Below w.heap.size w (w3.alloc (.cells #[.bool false, .slice none 0 0, .slice none 0 0] 58))) := below_alloc HG3.out _
        go_wp2_with fail
        refine bodyPost_ret (v := .tuple #[.int .i64 0, .int .i64 1, .bool true]) ?_ rfl ?_
        · simp [results, Tryz.results12, go_sem]
        · exact ⟨by rw [HX.out], HG4.out⟩
      · obtain ⟨j, hj, ej⟩ := HM3.out.2.2.1 _ hh
        obtain ⟨v', h4, _, hf⟩ := HM3.out.2.2.2 j hj
        have hvv : v = v' := by
          rw [← ej, h4] at hv
          simp only [RV, Option.some.injEq, Prod.mk.injEq, DataW.held.injEq] at hv
          exact hv.1
        subst hvv
        have HX : Hid (r = (ts.getD j 0, bs.getD j 0, true)) := HF3.out t j HOK.out HTO.out hj ej
        obtain ⟨l1, l2, l3, l4⟩ := smallF_parts (item_small2 (HIT.out.2.2.2 j hj))
        have hf0 := hf
        obtain ⟨x5, y5, rfl, hx5, hy5⟩ := hf
        obtain ⟨A5, n5, c5, rfl, -, -, -, -⟩ := hx5.shape
        obtain ⟨A6, n6, c6, rfl, -, -, -, -⟩ := hy5.shape
        generalize ts.getD j 0 = T at *
        generalize bs.getD j 0 = Z at *
        generalize hsg : decide (T < 0) = sg at *
        have hb4 : Below w3.heap.size w3 (w3.alloc (.cells #[.bool sg, .slice A5 n5 c5, .slice A6 n6 c6] 58)) := below_alloc (Below.refl _ _) _
        have HG4 : Hid (Below w.heap.size w (w3.alloc (.cells #[.bool sg, .slice A5 n5 c5, .slice A6 n6 c6] 58))) := below_alloc HG3.out _
        have hpt := parts_any (.agg #[.bool sg, .slice A5 n5 c5, .slice A6 n6 c6]) sg T.natAbs Z.natAbs _ (by omega) (by omega) (hf0.below hb4)
        have e5 : (if sg then -(T.natAbs : Int) else (T.natAbs : Int)) = T := by
          rw [← hsg]
          by_cases h0 : T < 0
          · simp only [h0, decide_true, if_true]; omega
          · simp only [h0, decide_false]; simp; omega
        have e6 : ((Z.natAbs : Nat) : Int) = Z := by omega
        rw [e5, e6] at hpt
        have HPT := Lib.hid hpt
        rw [hh] at hrun
        clear hv hh hf0 hx5 hy5 hb4 hpt e5 e6 hsg ej h4
        go_wp2_with fail
        refine HPT.out.mono ?_
        rintro e w5 ⟨rfl, hb5⟩
        have HG5 := Lib.hid (HG4.out.trans (hb5.mono HG4.out.size))
        clear hb5
        go_wp2_with fail
        refine bodyPost_ret (v := .tuple #[.int .i64 T, .int .i64 Z, .bool true]) ?_ rfl ?_
        · simp [results, Tryz.results12, go_sem]
        · exact ⟨by rw [HX.out], HG5.out⟩

end Go.Proofs.YtdlbgppoochheaaGreatDoor
