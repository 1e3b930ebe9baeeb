/- The program's fractions: parts. The program's SumPart. -/
import Derived.Test.YtopmkddmllmecaaGreatDoorImV
namespace Go.Proofs.YtopmkddmllmecaaGreatDoor
open Go.RowKit Rt Go.Lib
open Go.ChangeMaps Go.MapKept Go.Maps Go.WideMaps

theorem nw_small {x : Nat} (h : x ≤ 1000000000) : nw x ≤ 1 := by
  unfold nw
  split
  · omega
  · rw [if_pos (by omega)]; exact Nat.le_refl _

set_option maxHeartbeats 3200000 in
set_option maxRecDepth 100000 in
theorem parts_any (v : Value) (s : Bool) (t b : Nat) (w : World) (ht : t ≤ 1000000000) (hb : b ≤ 1000000000) (hf : FracRep w v s t b) :
    Calls Tryz.prog 76 #[v] w fun e w' => e = .returned (.tuple #[.int .i64 (if s then -(t : Int) else (t : Int)), .int .i64 (b : Nat), .bool true]) ∧ Below w.heap.size w w' := by
  obtain ⟨x, y, rfl, hx, hy⟩ := hf
  obtain ⟨A1, n1, c1, rfl, -, -, -, e1⟩ := hx.shape
  obtain ⟨A2, n2, c2, rfl, -, -, -, e2⟩ := hy.shape
  have q1 : n1 ≤ 1 := by rw [e1]; exact nw_small ht
  have q2 : n2 ≤ 1 := by rw [e2]; exact nw_small hb
  have d1 : decide ((n1 : Int) > 1) = false := by rw [decide_eq_false_iff_not]; omega
  have d2 : decide ((n2 : Int) > 1) = false := by rw [decide_eq_false_iff_not]; omega
  have d3 : decide ((t : Int) > 1000000000) = false := by rw [decide_eq_false_iff_not]; omega
  have d4 : decide ((b : Int) > 1000000000) = false := by rw [decide_eq_false_iff_not]; omega
  have f1 : IntKind.i64.wrap (t : Int) = (t : Int) := IntWalk.i64_in _ (by omega)
  have f2 : IntKind.i64.wrap (b : Int) = (b : Int) := IntWalk.i64_in _ (by omega)
  have f3 : IntKind.i64.wrap (-(t : Int)) = -(t : Int) := IntWalk.i64_in _ (by omega)
  have HX := Lib.hid hx
  have HY := Lib.hid hy
  have HK0 := Lib.hid (Blk.new w 58 #[.bool s, .slice A1 n1 c1, .slice A2 n2 c2])
  have HB0 : Hid (Below w.heap.size w (w.alloc (.cells #[.bool s, .slice A1 n1 c1, .slice A2 n2 c2] 58))) := below_alloc (Below.refl _ w) _
  clear hx hy e1 e2 q1 q2
  have hse : s = true ∨ s = false := by cases s <;> simp
  rcases hse with rfl | rfl
  · go_enter Tryz.func76, Tryz.ntmps76
    go_wp2_with fail
    refine (word_any _ t _ (HX.out.below HB0.out)).mono ?_
    rintro e w1 ⟨rfl, hb1⟩
    have HB1 := Lib.hid (HB0.out.trans (hb1.mono HB0.out.size))
    have HK1 := Lib.hid (HK0.out.below hb1 HK0.out.lt)
    obtain ⟨a1, b1, c1⟩ := blk_three HK1.out
    clear hb1
    go_wp2_with fail
    clear a1 b1 c1
    refine (word_any _ b _ (HY.out.below HB1.out)).mono ?_
    rintro e w2 ⟨rfl, hb2⟩
    have HB2 := Lib.hid (HB1.out.trans (hb2.mono HB1.out.size))
    have HK2 := Lib.hid (HK1.out.below hb2 HK1.out.lt)
    obtain ⟨a2, b2, c2⟩ := blk_three HK2.out
    clear hb2
    go_wp2_with fail
    clear a2 b2 c2
    refine (word_any _ t _ (HX.out.below HB2.out)).mono ?_
    rintro e w3 ⟨rfl, hb3⟩
    have HB3 := Lib.hid (HB2.out.trans (hb3.mono HB2.out.size))
    have HK3 := Lib.hid (HK2.out.below hb3 HK2.out.lt)
    obtain ⟨a3, b3, c3⟩ := blk_three HK3.out
    clear hb3
    go_wp2_with fail
    clear a3 b3 c3
    refine (word_any _ b _ (HY.out.below HB3.out)).mono ?_
    rintro e w4 ⟨rfl, hb4⟩
    have HB4 := Lib.hid (HB3.out.trans (hb4.mono HB3.out.size))
    have HK4 := Lib.hid (HK3.out.below hb4 HK3.out.lt)
    obtain ⟨a4, b4, c4⟩ := blk_three HK4.out
    clear hb4
    go_wp2_with fail
    refine bodyPost_ret (v := .tuple #[.int .i64 (-(t : Int)), .int .i64 (b : Nat), .bool true]) ?_ rfl ?_
    · simp [results, Tryz.results76, go_sem]
    · exact ⟨rfl, HB4.out⟩
  · go_enter Tryz.func76, Tryz.ntmps76
    go_wp2_with fail
    refine (word_any _ t _ (HX.out.below HB0.out)).mono ?_
    rintro e w1 ⟨rfl, hb1⟩
    have HB1 := Lib.hid (HB0.out.trans (hb1.mono HB0.out.size))
    have HK1 := Lib.hid (HK0.out.below hb1 HK0.out.lt)
    obtain ⟨a1, b1, c1⟩ := blk_three HK1.out
    clear hb1
    go_wp2_with fail
    clear a1 b1 c1
    refine (word_any _ b _ (HY.out.below HB1.out)).mono ?_
    rintro e w2 ⟨rfl, hb2⟩
    have HB2 := Lib.hid (HB1.out.trans (hb2.mono HB1.out.size))
    have HK2 := Lib.hid (HK1.out.below hb2 HK1.out.lt)
    obtain ⟨a2, b2, c2⟩ := blk_three HK2.out
    clear hb2
    go_wp2_with fail
    clear a2 b2 c2
    refine (word_any _ t _ (HX.out.below HB2.out)).mono ?_
    rintro e w3 ⟨rfl, hb3⟩
    have HB3 := Lib.hid (HB2.out.trans (hb3.mono HB2.out.size))
    have HK3 := Lib.hid (HK2.out.below hb3 HK2.out.lt)
    obtain ⟨a3, b3, c3⟩ := blk_three HK3.out
    clear hb3
    go_wp2_with fail
    clear a3 b3 c3
    refine (word_any _ b _ (HY.out.below HB3.out)).mono ?_
    rintro e w4 ⟨rfl, hb4⟩
    have HB4 := Lib.hid (HB3.out.trans (hb4.mono HB3.out.size))
    have HK4 := Lib.hid (HK3.out.below hb4 HK3.out.lt)
    obtain ⟨a4, b4, c4⟩ := blk_three HK4.out
    clear hb4
    go_wp2_with fail
    refine bodyPost_ret (v := .tuple #[.int .i64 (t : Int), .int .i64 (b : Nat), .bool true]) ?_ rfl ?_
    · simp [results, Tryz.results76, go_sem]
    · exact ⟨rfl, HB4.out⟩

/-- Where a text is in a sum. -/
def findAt (ss : List ByteArray) (l : B) : Option Nat := (List.range ss.length).find? (fun j => decide (sAt ss j = l))

/-- What SumPart gives. -/
def partRes (ss : List ByteArray) (ts bs : List Int) (l : B) : Int × Int × Bool :=
  match sumOk ss ts bs, termOf l, findAt ss l with
  | true, some _, some j => (ts.getD j 0, bs.getD j 0, true)
  | true, some _, none => (0, 1, true)
  | _, _, _ => (0, 0, false)

theorem sumOk_items {ss : List ByteArray} {ts bs : List Int} (h : sumOk ss ts bs = true) : ss.length ≤ 300 ∧ ts.length = ss.length ∧ bs.length = ss.length ∧ ∀ i, i < ss.length → itemOk ss ts bs i = true := by
  unfold sumOk at h
  simp only [Bool.and_eq_true, decide_eq_true_eq, List.all_eq_true, List.mem_range] at h
  exact ⟨h.1.1.1, h.1.1.2, h.1.2, h.2⟩

theorem items_inj {ss : List ByteArray} {ts bs : List Int} (h : ∀ i, i < ss.length → itemOk ss ts bs i = true) {i j : Nat} (hi : i < ss.length) (hj : j < ss.length) (e : sAt ss i = sAt ss j) : i = j := by
  rcases Nat.lt_trichotomy i j with hh | hh | hh
  · exact absurd e (items_ne (k := j) (fun a ha => h a (by omega)) i hh)
  · exact hh
  · exact absurd e.symm (items_ne (k := i) (fun a ha => h a (by omega)) j hh)

theorem findAt_some {ss : List ByteArray} {ts bs : List Int} {l : B} (h : ∀ i, i < ss.length → itemOk ss ts bs i = true) {j : Nat} (hj : j < ss.length) (e : sAt ss j = l) : findAt ss l = some j := by
  unfold findAt
  cases hf : (List.range ss.length).find? (fun j => decide (sAt ss j = l)) with
  | none =>
    rw [List.find?_eq_none] at hf
    have := hf j (List.mem_range.2 hj)
    simp [e] at this
  | some i =>
    have h1 := List.find?_some hf
    have h2 := List.mem_range.1 (List.mem_of_find?_eq_some hf)
    simp only [decide_eq_true_eq] at h1
    rw [items_inj h h2 hj (h1.trans e.symm)]

theorem findAt_none {ss : List ByteArray} {l : B} (h : ∀ j, j < ss.length → sAt ss j ≠ l) : findAt ss l = none := by
  unfold findAt
  rw [List.find?_eq_none]
  intro j hj
  simpa using h j (List.mem_range.1 hj)

theorem zeroFrac (w : World) : (zeroValue 58).run Tryz.prog w = .ok (.agg #[.bool false, .slice none 0 0, .slice none 0 0]) w := by kernel_rfl

theorem item_small2 {ss : List ByteArray} {ts bs : List Int} {k : Nat} (h : itemOk ss ts bs k = true) : smallF (ts.getD k 0) (bs.getD k 0) = true := by
  unfold itemOk at h
  simp only [Bool.and_eq_true] at h
  exact h.1.1.1.2

/-- What is asked of a triple. -/
def TripPost (w : World) (r : Int × Int × Bool) (e : Ending) (w' : World) : Prop := e = .returned (.tuple #[.int .i64 r.1, .int .i64 r.2.1, .bool r.2.2]) ∧ Below w.heap.size w w'

end Go.Proofs.YtopmkddmllmecaaGreatDoor
