/- The program's fractions: parts, where one part is too large. -/
import Derived.Test.YtopmkddmllmecaaGreatDoorPtI
namespace Go.Proofs.YtopmkddmllmecaaGreatDoor
open Go.RowKit Rt Go.Lib

theorem nw_big {x : Nat} (h : ¬ x < 4294967296) : nw x = 2 := nw_two (by omega)

set_option maxHeartbeats 3200000 in
set_option maxRecDepth 100000 in
theorem parts_no (v : Value) (s : Bool) (t b : Nat) (w : World) (hbig : ¬ (t ≤ 1000000000 ∧ b ≤ 1000000000)) (hf : FracRep w v s t b) :
    Calls Tryz.prog 76 #[v] w fun e w' => e = .returned (.tuple #[.int .i64 0, .int .i64 0, .bool false]) ∧ Below w.heap.size w w' := by
  obtain ⟨x, y, rfl, hx, hy⟩ := hf
  obtain ⟨A1, n1, c1, rfl, -, -, -, e1⟩ := hx.shape
  obtain ⟨A2, n2, c2, rfl, -, -, -, e2⟩ := hy.shape
  have HX := Lib.hid hx
  have HY := Lib.hid hy
  have HK0 := Lib.hid (Blk.new w 58 #[.bool s, .slice A1 n1 c1, .slice A2 n2 c2])
  have HB0 : Hid (Below w.heap.size w (w.alloc (.cells #[.bool s, .slice A1 n1 c1, .slice A2 n2 c2] 58))) := below_alloc (Below.refl _ w) _
  have hz1 := nw_le t
  have hz2 := nw_le b
  by_cases p1 : t < 4294967296
  · have q1 : n1 ≤ 1 := by
      rw [e1]; unfold nw; split
      · omega
      · exact Nat.le_refl _
    have d1 : decide ((n1 : Int) > 1) = false := by rw [decide_eq_false_iff_not]; omega
    by_cases p2 : b < 4294967296
    · have q2 : n2 ≤ 1 := by
        rw [e2]; unfold nw; split
        · omega
        · exact Nat.le_refl _
      have d2 : decide ((n2 : Int) > 1) = false := by rw [decide_eq_false_iff_not]; omega
      by_cases p3 : t ≤ 1000000000
      · have d3 : decide ((t : Int) > 1000000000) = false := by rw [decide_eq_false_iff_not]; omega
        have d4 : decide ((b : Int) > 1000000000) = true := by rw [decide_eq_true_eq]; omega
        clear hx hy e1 e2 q1 q2 hz1 hz2 p1 p2 p3 hbig
        go_enter Tryz.func76, Tryz.ntmps76
        go_wp2_with fail
        refine (word_any _ t _ (HX.out.below HB0.out)).mono ?_
        rintro e w1 ⟨rfl, hb1⟩
        have HB1 := Lib.hid (HB0.out.trans (hb1.mono HB0.out.size))
        have HK1 := Lib.hid (HK0.out.below hb1 HK0.out.lt)
        obtain ⟨a1, b1, c1⟩ := blk_three HK1.out
        clear hb1
        go_wp2_with fail
        clear a1 b1 c1
        refine (word_any _ b _ (HY.out.below HB1.out)).mono ?_
        rintro e w2 ⟨rfl, hb2⟩
        have HB2 := Lib.hid (HB1.out.trans (hb2.mono HB1.out.size))
        have HK2 := Lib.hid (HK1.out.below hb2 HK1.out.lt)
        obtain ⟨a2, b2, c2⟩ := blk_three HK2.out
        clear hb2
        go_wp2_with fail
        refine bodyPost_ret (v := .tuple #[.int .i64 0, .int .i64 0, .bool false]) ?_ rfl ?_
        · simp [results, Tryz.results76, go_sem]
        · exact ⟨rfl, HB2.out⟩
      · have d3 : decide ((t : Int) > 1000000000) = true := by rw [decide_eq_true_eq]; omega
        clear hx hy e1 e2 q1 q2 hz1 hz2 p1 p2 p3 hbig
        go_enter Tryz.func76, Tryz.ntmps76
        go_wp2_with fail
        refine (word_any _ t _ (HX.out.below HB0.out)).mono ?_
        rintro e w1 ⟨rfl, hb1⟩
        have HB1 := Lib.hid (HB0.out.trans (hb1.mono HB0.out.size))
        have HK1 := Lib.hid (HK0.out.below hb1 HK0.out.lt)
        obtain ⟨a1, b1, c1⟩ := blk_three HK1.out
        clear hb1
        go_wp2_with fail
        refine bodyPost_ret (v := .tuple #[.int .i64 0, .int .i64 0, .bool false]) ?_ rfl ?_
        · simp [results, Tryz.results76, go_sem]
        · exact ⟨rfl, HB1.out⟩
    · have q2 : n2 = 2 := by rw [e2]; exact nw_big p2
      have d2 : decide ((n2 : Int) > 1) = true := by rw [decide_eq_true_eq]; omega
      clear hx hy e1 e2 q1 q2 hz1 hz2 p1 p2 hbig
      go_enter Tryz.func76, Tryz.ntmps76
      go_wp2_with fail
      refine bodyPost_ret (v := .tuple #[.int .i64 0, .int .i64 0, .bool false]) ?_ rfl ?_
      · simp [results, Tryz.results76, go_sem]
      · exact ⟨rfl, HB0.out⟩
  · have q1 : n1 = 2 := by rw [e1]; exact nw_big p1
    have d1 : decide ((n1 : Int) > 1) = true := by rw [decide_eq_true_eq]; omega
    clear hx hy e1 e2 q1 hz1 hz2 p1 hbig
    go_enter Tryz.func76, Tryz.ntmps76
    go_wp2_with fail
    refine bodyPost_ret (v := .tuple #[.int .i64 0, .int .i64 0, .bool false]) ?_ rfl ?_
    · simp [results, Tryz.results76, go_sem]
    · exact ⟨rfl, HB0.out⟩

end Go.Proofs.YtopmkddmllmecaaGreatDoor
