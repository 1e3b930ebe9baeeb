/- The law of SumWhole: its walk. -/
import Derived.Test.YtdlbgppoochheaaGreatDoorWhI
import Derived.Test.YtdlbgppoochheaaGreatDoorWhS
import Derived.Test.YtdlbgppoochheaaGreatDoorSumC
namespace Go.Proofs.YtdlbgppoochheaaGreatDoor
open Go.RowKit Rt Go.Lib

set_option maxHeartbeats 3200000 in
set_option maxRecDepth 100000 in
theorem walkSumWhole (A B C : Option Addr) (ca cb cc : Nat) (ss : List ByteArray) (ts bs : List Int) (w : World) (hn0 : ss.length ≤ maxLen) (hn1 : ts.length ≤ maxLen ∧ ∀ z ∈ ts, -9223372036854775808 ≤ z ∧ z ≤ 9223372036854775807) (hn2 : bs.length ≤ maxLen ∧ ∀ z ∈ bs, -9223372036854775808 ≤ z ∧ z ≤ 9223372036854775807)
    (hws : ∀ s ∈ ss, s.size ≤ maxLen) (hA : Texts w A ss) (hB : Ints w B ts) (hC : Ints w C bs) :
    Calls Tryz.prog 5 #[.agg #[.slice A ss.length ca, .slice B ts.length cb, .slice C bs.length cc]] w fun e w' => e = .returned (.bool true) ∧ Below w.heap.size w w' := by
  have HZ : Hid (∀ W, Below w.heap.size w W → Calls Tryz.prog 6 #[.agg #[.slice A ss.length ca, .slice B ts.length cb, .slice C bs.length cc], .int .i64 1048576] W (SzPost W ss.length ts.length bs.length)) := fun W hb => szSum_any A B C ca cb cc ts.length bs.length ss W hws hn0 hn1.1 hn2.1 (hA.below hb)
  have HT : Hid (∀ W, Below w.heap.size w W → ss.length ≤ 1048576 → ts.length ≤ 1048576 → bs.length ≤ 1048576 → Calls Tryz.prog 8 #[.agg #[.slice A ss.length ca, .slice B ts.length cb, .slice C bs.length cc]] W (ToPost W ss ts bs)) := fun W hb h0 h1 h2 => toSum_any A B C ca cb cc ss ts bs W h0 h1 h2 (hA.below hb) (hB.below hb) (hC.below hb)
  have HSV : Hid (∀ (W : World) (g0 g1 g2 : Nat), Texts W (some ⟨g0, 0, none⟩) ss → Ints W (some ⟨g1, 0, none⟩) ts → Ints W (some ⟨g2, 0, none⟩) bs → Calls Tryz.prog 13 #[.agg #[.slice (some ⟨g0, 0, none⟩) ss.length ss.length, .slice (some ⟨g1, 0, none⟩) ts.length ts.length, .slice (some ⟨g2, 0, none⟩) bs.length bs.length]] W fun e w' => e = .returned (.bool (sumOk ss ts bs && allOne bs)) ∧ Below W.heap.size W w') :=
    fun W g0 g1 g2 a b c => specSumWhole _ _ _ _ _ _ ss ts bs W hws hn0 hn1.1 hn2.1 a b c
  have HIV : Hid (∀ (W : World) (g0 g1 g2 : Nat), Texts W (some ⟨g0, 0, none⟩) ss → Ints W (some ⟨g1, 0, none⟩) ts → Ints W (some ⟨g2, 0, none⟩) bs → Calls Tryz.prog 14 #[.agg #[.slice (some ⟨g0, 0, none⟩) ss.length ss.length, .slice (some ⟨g1, 0, none⟩) ts.length ts.length, .slice (some ⟨g2, 0, none⟩) bs.length bs.length]] W fun e w' => e = .returned (.bool (sumOk ss ts bs && allOne bs)) ∧ Below W.heap.size W w') :=
    fun W g0 g1 g2 a b c => implSumWhole _ _ _ _ _ _ ss ts bs W hws hn0 hn1.1 hn2.1 a b c
  have HEQ : Hid (∀ (W : World) (g0 g1 g2 g0' g1' g2' : Nat), Texts W (some ⟨g0, 0, none⟩) ss → Ints W (some ⟨g1, 0, none⟩) ts → Ints W (some ⟨g2, 0, none⟩) bs → Texts W (some ⟨g0', 0, none⟩) ss → Ints W (some ⟨g1', 0, none⟩) ts → Ints W (some ⟨g2', 0, none⟩) bs → Calls Tryz.prog 10 #[.agg #[.slice (some ⟨g0, 0, none⟩) ss.length ss.length, .slice (some ⟨g1, 0, none⟩) ts.length ts.length, .slice (some ⟨g2, 0, none⟩) bs.length bs.length], .agg #[.slice (some ⟨g0', 0, none⟩) ss.length ss.length, .slice (some ⟨g1', 0, none⟩) ts.length ts.length, .slice (some ⟨g2', 0, none⟩) bs.length bs.length]] W fun e w' => e = .returned (.bool true) ∧ Below W.heap.size W w') :=
    fun W g0 g1 g2 g0' g1' g2' a b c a' b' c' => eqSum_same _ _ _ _ _ _ _ _ _ _ _ _ ss ts bs W hn0 hn1.1 hn2.1 a b c a' b' c'
  generalize (sumOk ss ts bs && allOne bs) = x at HSV HIV
  clear hA hB hC hws hn0 hn1 hn2
  have hbx : Blk (w.alloc (.cells #[.slice A ss.length ca, .slice B ts.length cb, .slice C bs.length cc] 25)) w.heap.size 25 #[.slice A ss.length ca, .slice B ts.length cb, .slice C bs.length cc] := Blk.new w _ _
  have hb0 : Below w.heap.size w (w.alloc (.cells #[.slice A ss.length ca, .slice B ts.length cb, .slice C bs.length cc] 25)) := by go_grown
  have HBX := Lib.hid hbx
  have HB0 := Lib.hid hb0
  clear hbx hb0
  go_enter Tryz.func5, Tryz.ntmps5
  go_wp2_with fail
  refine (HZ.out _ HB0.out).mono ?_
  rintro e w1 ⟨hb1, v, rfl, hv⟩
  have hx1 := HBX.out.below hb1 HBX.out.lt
  have HX1 := Lib.hid hx1
  have HB1 := Lib.hid (HB0.out.trans (hb1.mono HB0.out.size))
  obtain ⟨a0, a1, a2⟩ := blk_three hx1
  clear hb1 hx1
  rcases hv with hv | ⟨hv, h0, h1, h2⟩
  · have d1 : decide (v < 0) = true := by simpa using hv
    go_wp2_with fail
    go_ret
    exact ⟨rfl, HB1.out⟩
  · have d1 : decide (v < 0) = false := by rw [decide_eq_false_iff_not]; omega
    go_wp2_with fail
    refine (HT.out _ HB1.out h0 h1 h2).mono ?_
    rintro e w2 ⟨hb2, g0, g1, g2, rfl, t0, t1, t2⟩
    have HX2 := Lib.hid (HX1.out.below hb2 HX1.out.lt)
    have HB2 := Lib.hid (HB1.out.trans (hb2.mono HB1.out.size))
    have HS2 := Lib.hid (HSV.out w2 g0 g1 g2 t0 t1 t2)
    clear hb2 t0 t1 t2 a0 a1 a2
    go_wp2_with fail
    refine HS2.out.mono ?_
    rintro e w3 ⟨rfl, hb3⟩
    have hx3 := HX2.out.below hb3 HX2.out.lt
    have HX3 := Lib.hid hx3
    have HB3 := Lib.hid (HB2.out.trans (hb3.mono HB2.out.size))
    obtain ⟨a0, a1, a2⟩ := blk_three hx3
    clear hb3 hx3
    go_wp2_with fail
    refine (HT.out _ HB3.out h0 h1 h2).mono ?_
    rintro e w4 ⟨hb4, q0, q1, q2, rfl, t0, t1, t2⟩
    have hb5 : Below w4.heap.size w4 (w4.alloc (.cells #[.slice (some ⟨q0, 0, none⟩) ss.length ss.length, .slice (some ⟨q1, 0, none⟩) ts.length ts.length, .slice (some ⟨q2, 0, none⟩) bs.length bs.length] 28)) := by go_grown
    have HX4 := Lib.hid ((HX3.out.below hb4 HX3.out.lt).below hb5 (Nat.lt_of_lt_of_le HX3.out.lt hb4.size))
    have hB4 := HB3.out.trans (hb4.mono HB3.out.size)
    have HB5 := Lib.hid (hB4.trans (hb5.mono hB4.size))
    have HY5 := Lib.hid (Blk.new w4 28 #[.slice (some ⟨q0, 0, none⟩) ss.length ss.length, .slice (some ⟨q1, 0, none⟩) ts.length ts.length, .slice (some ⟨q2, 0, none⟩) bs.length bs.length])
    have HT0 := Lib.hid (t0.below hb5)
    have HT1 := Lib.hid (t1.below hb5)
    have HT2 := Lib.hid (t2.below hb5)
    have HI5 := Lib.hid (HIV.out _ q0 q1 q2 HT0.out HT1.out HT2.out)
    clear hb4 hb5 hB4 t0 t1 t2 a0 a1 a2
    go_wp2_with fail
    refine HI5.out.mono ?_
    rintro e w6 ⟨rfl, hb6⟩
    have hx6 := HX4.out.below hb6 HX4.out.lt
    have hy6 := HY5.out.below hb6 HY5.out.lt
    have HB6 := Lib.hid (HB5.out.trans (hb6.mono HB5.out.size))
    have HU0 := Lib.hid (HT0.out.below hb6)
    have HU1 := Lib.hid (HT1.out.below hb6)
    have HU2 := Lib.hid (HT2.out.below hb6)
    have dx : (x != x) = false := by simp
    obtain ⟨a0, a1, a2⟩ := blk_three hx6
    obtain ⟨b0, b1, b2⟩ := blk_three hy6
    have hS := six_drew (w0 := w6) ⟨a0, a1, a2, b0, b1, b2, Below.refl w6.heap.size w6⟩
    clear hb6 hx6 hy6 a0 a1 a2 b0 b1 b2
    go_wp2_with fail
    go_region_held3 (fun W' => (W'.cell? ⟨w.heap.size, 0, none⟩ = some (.slice A ss.length ca) ∧ W'.cell? ⟨w.heap.size, 1, none⟩ = some (.slice B ts.length cb) ∧ W'.cell? ⟨w.heap.size, 2, none⟩ = some (.slice C bs.length cc) ∧ W'.cell? ⟨w4.heap.size, 0, none⟩ = some (.slice (some ⟨q0, 0, none⟩) ss.length ss.length) ∧ W'.cell? ⟨w4.heap.size, 1, none⟩ = some (.slice (some ⟨q1, 0, none⟩) ts.length ts.length) ∧ W'.cell? ⟨w4.heap.size, 2, none⟩ = some (.slice (some ⟨q2, 0, none⟩) bs.length bs.length) ∧ Below w6.heap.size w6 W'))
      (first
        | (with_reducible assumption)
        | (with_reducible exact six_below ‹_ ∧ _ ∧ _ ∧ _ ∧ _ ∧ _ ∧ Below _ _ _› hba))
      (first
        | (go_at_call 8; obtain ⟨k1, k2, k3, k4, k5, k6, k8⟩ := (‹_ ∧ _ ∧ _ ∧ _ ∧ _ ∧ _ ∧ Below _ _ _›); (with_reducible refine Calls.mono (HT.out _ (HB6.out.trans (k8.mono HB6.out.size)) h0 h1 h2) ?_); rintro e wa ⟨hba, p0, p1, p2, rfl, t0, t1, t2⟩; have HP0 := Lib.hid t0; have HP1 := Lib.hid t1; have HP2 := Lib.hid t2; clear t0 t1 t2)
        | (go_at_call 10; obtain ⟨k1, k2, k3, k4, k5, k6, k8⟩ := (‹_ ∧ _ ∧ _ ∧ _ ∧ _ ∧ _ ∧ Below _ _ _›); (with_reducible refine Calls.mono (HEQ.out _ _ _ _ _ _ _ (HU0.out.below k8) (HU1.out.below k8) (HU2.out.below k8) HP0.out HP1.out HP2.out) ?_); rintro e wa ⟨rfl, hba⟩))
    all_goals
      have hS := ‹_ ∧ _ ∧ _ ∧ _ ∧ _ ∧ _ ∧ Below _ _ _›
      have HBF := Lib.hid (HB6.out.trans ((And.right (And.right (And.right (And.right (And.right (And.right hS)))))).mono HB6.out.size))
      clear hS
      go_wp2_with fail
      go_ret
      exact ⟨rfl, HBF.out⟩

end Go.Proofs.YtdlbgppoochheaaGreatDoor
