/- The model's SumOf. -/
import Derived.Test.YtopmkddmllmecaaGreatDoorPuB
import Derived.Test.YtopmkddmllmecaaGreatDoorMkA
import Derived.Test.YtopmkddmllmecaaGreatDoorNatF
import Derived.Test.YtopmkddmllmecaaGreatDoorSpecM
import Derived.StillTailTactics
set_option linter.unusedSimpArgs false
set_option linter.unusedVariables false
namespace Go.Proofs.YtopmkddmllmecaaGreatDoor
open Go.RowKit Rt Go.Lib

/-- The parts of a fraction in lowest terms, as Go divides. -/
theorem parts_div (t b : Int) (h3 : 1 ≤ b) : t.tdiv ((Nat.gcd t.natAbs b.natAbs : Nat) : Int) = (if t < 0 then -(fracTop t b : Int) else (fracTop t b : Int)) ∧ b.tdiv ((Nat.gcd t.natAbs b.natAbs : Nat) : Int) = (fracBot t b : Int) := by
  unfold fracTop fracBot
  generalize Nat.gcd t.natAbs b.natAbs = g
  constructor
  · rcases Int.natAbs_eq t with h | h
    · by_cases ht : t < 0
      · omega
      · rw [if_neg ht]
        generalize t.natAbs = m at *
        subst h
        exact (Int.ofNat_tdiv m g).symm
    · by_cases ht : t < 0
      · rw [if_pos ht]
        generalize t.natAbs = m at *
        subst h
        rw [Int.neg_tdiv]
        congr 1
      · have : t = 0 := by omega
        subst this
        simp
  · rcases Int.natAbs_eq b with h | h
    · generalize b.natAbs = m at *
      subst h
      exact (Int.ofNat_tdiv m g).symm
    · omega

theorem frac_le' (t b : Int) (h1 : -1000000000 ≤ t) (h2 : t ≤ 1000000000) (h3 : 1 ≤ b) (h4 : b ≤ 1000000000) : fracTop t b ≤ 1000000000 ∧ fracBot t b ≤ 1000000000 := by
  have q1 : t.natAbs / Nat.gcd t.natAbs b.natAbs ≤ t.natAbs := Nat.div_le_self _ _
  have q2 : b.natAbs / Nat.gcd t.natAbs b.natAbs ≤ b.natAbs := Nat.div_le_self _ _
  unfold fracTop fracBot
  omega

theorem fracTop_zero' {t b : Int} (h3 : 1 ≤ b) : fracTop t b = 0 ↔ t = 0 := by
  unfold fracTop
  constructor
  · intro h
    have hg : 0 < Nat.gcd t.natAbs b.natAbs := Nat.gcd_pos_of_pos_right _ (by omega)
    have hd : Nat.gcd t.natAbs b.natAbs ∣ t.natAbs := Nat.gcd_dvd_left _ _
    have h5 := Nat.div_mul_cancel hd
    rw [h] at h5
    omega
  · rintro rfl
    simp

/-- The rows of a sum of at most one term. -/
def oneRows (key : B) (t b : Int) : List ByteArray × List Int × List Int × Bool :=
  match (termOf key).isSome && smallF t b, decide (t = 0) with
    | true, false => ([⟨key.toArray⟩], [if t < 0 then -(fracTop t b : Int) else (fracTop t b : Int)], [(fracBot t b : Int)], true)
    | true, true => ([], [], [], true)
    | false, _ => ([], [], [], false)

theorem oneRows_len (key : B) (t b : Int) : ∃ n ss ts bs bo, oneRows key t b = (ss, ts, bs, bo) ∧ n ≤ 1 ∧ ss.length = n ∧ ts.length = n ∧ bs.length = n := by
  unfold oneRows
  cases (termOf key).isSome && smallF t b
  · exact ⟨0, [], [], [], false, by simp, by omega, rfl, rfl, rfl⟩
  · cases decide (t = 0)
    · exact ⟨1, _, _, _, true, rfl, by omega, rfl, rfl, rfl⟩
    · exact ⟨0, [], [], [], true, rfl, by omega, rfl, rfl, rfl⟩

theorem ownsRow_setCell_belowA {w : World} {B n : Nat} {e : TypeId} {v : Value} {vs : List Value} (h : w.ownsRow B e 1 v n vs) {q i : Nat} (hq : q < B) (x : Value) : (w.setCell ⟨q, i, none⟩ x).ownsRow B e 1 v n vs :=
  h.kept (row := some q) grown_cell4 (by
    cases hv : v.ownBlock with
    | none => exact .inl rfl
    | some k => exact .inr (fun e => by
        injection e with e
        have := own_block_lt h k hv
        omega))

/-- What the model's SumOf gives: rows that read so. -/
def SumReads (w : World) (n : Nat) (ss : List ByteArray) (ts bs : List Int) (bo : Bool) (e : Ending) (w' : World) : Prop :=
  Below w.heap.size w w' ∧ ∃ A B C ca cb cc, e = .returned (.tuple #[.agg #[.slice A n ca, .slice B n cb, .slice C n cc], .bool bo]) ∧ Texts w' A ss ∧ Ints w' B ts ∧ Ints w' C bs

theorem SumReads.none_ {w w' : World} {key : B} {t b : Int} {n : Nat} {ss : List ByteArray} {ts bs : List Int} {bo : Bool} (hr : oneRows key t b = (ss, ts, bs, bo)) (hn : ss.length = n) (h : ((termOf key).isSome && smallF t b) = false) (hb : Below w.heap.size w w') : SumReads w n ss ts bs bo (.returned (.tuple #[.agg #[.slice none 0 0, .slice none 0 0, .slice none 0 0], .bool false])) w' := by
  unfold oneRows at hr
  rw [h] at hr
  simp only [Prod.mk.injEq] at hr
  obtain ⟨rfl, rfl, rfl, rfl⟩ := hr
  subst hn
  exact ⟨hb, none, none, none, 0, 0, 0, rfl, fun j s hs => by simp at hs, fun j s hs => by simp at hs, fun j s hs => by simp at hs⟩

set_option maxHeartbeats 400000 in
set_option maxRecDepth 100000 in
theorem put_zero (gw : Nat) (s : ByteArray) (b : Int) (w : World) (hc : w.cell? ⟨gw, 3, none⟩ = some (.bool false)) :
    Calls Tryz.prog 36 #[.pointer (some ⟨gw, 0, none⟩), .string s, .int .i64 0, .int .i64 b] w fun e w' => e = .returned (.tuple #[]) ∧ w' = w := by
  go_enter Tryz.func36, Tryz.ntmps36
  go_wp2_with fail
  refine bodyPost_ret (v := .tuple #[]) ?_ rfl ?_
  · simp [results, Tryz.results36, go_sem]
  · exact ⟨rfl, rfl⟩

set_option maxHeartbeats 400000 in
theorem find_nil (A : Option Addr) (c : Nat) (s : ByteArray) (w : World) :
    Calls Tryz.prog 68 #[.slice A 0 c, .string s] w fun e w' => e = .returned (.int .i64 0) ∧ w = w' := by
  go_enter Tryz.func68, Tryz.ntmps68
  go_wp2_with fail
  go_loopg [5, 6] 1 (fun g lv hv wr => w = wr ∧ lv = .int .i64 0 ∧ hv = .int .i64 0)
  case atStart => exact ⟨rfl, rfl, rfl⟩
  case round =>
    obtain ⟨rfl, rfl, rfl⟩ := hrel
    go_wp2_with fail
    go_ret
    exact ⟨rfl, rfl⟩

set_option maxHeartbeats 3200000 in
set_option maxRecDepth 100000 in
theorem specSumOf (hBag : BagSaid) (s : ByteArray) (t b : Int) (w : World) (hm : s.size ≤ maxLen) (n : Nat) (ss : List ByteArray) (ts bs : List Int) (bo : Bool) (hr : oneRows s.data.toList t b = (ss, ts, bs, bo)) (hn : ss.length = n) :
    Calls Tryz.prog 10 #[.string s, .int .i64 t, .int .i64 b] w (SumReads w n ss ts bs bo) := by
  have HTV : Hid (∀ W, Calls Tryz.prog 32 #[.string s] W fun e w' => e = .returned (.bool (termOf s.data.toList).isSome) ∧ Below W.heap.size W w') := fun W => specTermValid hBag s hm W
  have HB0 : Hid (Below w.heap.size w (w.alloc (.cells #[.slice none 0 0, .slice none 0 0, .slice none 0 0] 25))) := (Below.refl w.heap.size w).alloc (Nat.le_refl _) _
  have HH0 := Lib.hid (Blk.new w 25 #[.slice none 0 0, .slice none 0 0, .slice none 0 0])
  have HRR := Lib.hid hr
  have HNN := Lib.hid hn
  clear hr hn
  cases ht : (termOf s.data.toList).isSome
  · rw [ht] at HTV
    have HX : Hid (∀ w', Below w.heap.size w w' → SumReads w n ss ts bs bo (.returned (.tuple #[.agg #[.slice none 0 0, .slice none 0 0, .slice none 0 0], .bool false])) w') := fun w' hb => SumReads.none_ HRR.out HNN.out (by rw [ht]; rfl) hb
    clear ht
    go_enter Tryz.func10, Tryz.ntmps10
    go_wp2_with fail
    refine (HTV.out _).mono ?_
    rintro e w1 ⟨rfl, hb1⟩
    have HB1 := Lib.hid (HB0.out.trans (hb1.mono HB0.out.size))
    have hh1 := HH0.out.below hb1 HH0.out.lt
    obtain ⟨z0, z1, z2, y0, y1, y2⟩ := blk_three' hh1
    obtain ⟨u0, u1, u2⟩ := blk_three (set3_blk hh1 (.slice none 0 0) (.slice none 0 0) (.slice none 0 0))
    clear hb1 hh1
    go_wp2_with fail
    refine bodyPost_ret (v := .tuple #[.agg #[.slice none 0 0, .slice none 0 0, .slice none 0 0], .bool false]) ?_ rfl ?_
    · simp [results, Tryz.results10, go_sem, u0, u1, u2]
    · exact HX.out _ (((HB1.out.setCell (by simp) _).setCell (by simp) _).setCell (by simp) _)
  · rw [ht] at HTV
    cases hsm : smallF t b
    · have HX : Hid (∀ w', Below w.heap.size w w' → SumReads w n ss ts bs bo (.returned (.tuple #[.agg #[.slice none 0 0, .slice none 0 0, .slice none 0 0], .bool false])) w') := fun w' hb => SumReads.none_ HRR.out HNN.out (by rw [ht, hsm]; rfl) hb
      have HSM : Hid (∀ W, Calls Tryz.prog 33 #[.int .i64 t, .int .i64 b] W fun e w' => e = .returned (.bool false) ∧ W = w') := fun W => by
        have := l2Small_any t b W
        rwa [hsm] at this
      clear ht hsm
      go_enter Tryz.func10, Tryz.ntmps10
      go_wp2_with fail
      refine (HTV.out _).mono ?_
      rintro e w1 ⟨rfl, hb1⟩
      have HB1 := Lib.hid (HB0.out.trans (hb1.mono HB0.out.size))
      have hh1 := HH0.out.below hb1 HH0.out.lt
      obtain ⟨z0, z1, z2, y0, y1, y2⟩ := blk_three' hh1
      obtain ⟨u0, u1, u2⟩ := blk_three (set3_blk hh1 (.slice none 0 0) (.slice none 0 0) (.slice none 0 0))
      clear hb1 hh1
      go_wp2_with fail
      refine (HSM.out _).mono ?_
      rintro e w2 ⟨rfl, rfl⟩
      go_wp2_with fail
      refine bodyPost_ret (v := .tuple #[.agg #[.slice none 0 0, .slice none 0 0, .slice none 0 0], .bool false]) ?_ rfl ?_
      · simp [results, Tryz.results10, go_sem, u0, u1, u2]
      · exact HX.out _ (((HB1.out.setCell (by simp) _).setCell (by simp) _).setCell (by simp) _)
    · have hs0 := hsm
      unfold smallF at hs0
      simp only [Bool.and_eq_true, decide_eq_true_eq] at hs0
      obtain ⟨⟨⟨b1, b2⟩, b3⟩, b4⟩ := hs0
      have HSM : Hid (∀ W, Calls Tryz.prog 33 #[.int .i64 t, .int .i64 b] W fun e w' => e = .returned (.bool true) ∧ W = w') := fun W => by
        have := l2Small_any t b W
        rwa [hsm] at this
      obtain ⟨hd1, hd2⟩ := parts_div t b b3
      obtain ⟨g, hg⟩ : ∃ g, g = Nat.gcd t.natAbs b.natAbs := ⟨_, rfl⟩
      have hgp : 0 < g := by rw [hg]; exact Nat.gcd_pos_of_pos_right _ (by omega)
      have HGC : Hid (∀ W, Calls Tryz.prog 34 #[.int .i64 t, .int .i64 b] W fun e w' => e = .returned (.int .i64 (g : Nat)) ∧ W = w') := fun W => by
        rw [hg]; exact l2Gcd_any t b W (by omega) (by omega) (by omega) (by omega)
      rw [← hg] at hd1 hd2
      have HD := Lib.hid (And.intro hd1 hd2)
      have HSMF := Lib.hid hsm
      have HTO := Lib.hid ht
      clear ht hsm hd1 hd2 hg
      go_enter Tryz.func10, Tryz.ntmps10
      go_wp2_with fail
      refine (HTV.out _).mono ?_
      rintro e w1 ⟨rfl, hb1⟩
      have HB1 := Lib.hid (HB0.out.trans (hb1.mono HB0.out.size))
      have HH1 := Lib.hid (HH0.out.below hb1 HH0.out.lt)
      clear hb1
      go_wp2_with fail
      refine (HSM.out _).mono ?_
      rintro e w2 ⟨rfl, rfl⟩
      go_wp2_with fail
      refine (HGC.out _).mono ?_
      rintro e w3 ⟨rfl, rfl⟩
      go_wp2_with fail
      refine (l2New_any _).mono ?_
      rintro e w4 ⟨rfl, hb4, hz4, hw4⟩
      have HB4 := Lib.hid (HB1.out.trans (hb4.mono HB1.out.size))
      have HH4 := Lib.hid (HH1.out.below hb4 HH1.out.lt)
      have HW4 := Lib.hid hw4
      obtain ⟨tt, htt⟩ : ∃ tt : Int, tt = (if t < 0 then -(fracTop t b : Int) else (fracTop t b : Int)) := ⟨_, rfl⟩
      obtain ⟨bb, hbb⟩ : ∃ bb : Int, bb = (fracBot t b : Int) := ⟨_, rfl⟩
      obtain ⟨q1, q2⟩ := frac_le' t b b1 b2 b3 b4
      have e1 : t.tdiv (g : Int) = tt := by rw [HD.out.1, htt]
      have e2 : b.tdiv (g : Int) = bb := by rw [HD.out.2, hbb]
      have t1 : -1000000000 ≤ tt := by rw [htt]; split <;> omega
      have t2 : tt ≤ 1000000000 := by rw [htt]; split <;> omega
      have s1 : -1000000000 ≤ bb := by omega
      have s2 : bb ≤ 1000000000 := by omega
      have v1 : IntKind.i64.wrap tt = tt := IntWalk.i64_in tt (by omega)
      have v2 : IntKind.i64.wrap bb = bb := IntWalk.i64_in bb (by omega)
      have g0 : ¬ g = 0 := by omega
      have HTB := Lib.hid (And.intro htt hbb)
      have hsm2 : smallF tt bb = true := by
        unfold smallF
        simp only [Bool.and_eq_true, decide_eq_true_eq]
        have : 1 ≤ fracBot t b := by
          have hd : Nat.gcd t.natAbs b.natAbs ∣ b.natAbs := Nat.gcd_dvd_right _ _
          have hg3 : 0 < Nat.gcd t.natAbs b.natAbs := Nat.gcd_pos_of_pos_right _ (by omega)
          unfold fracBot
          exact Nat.div_pos (Nat.le_of_dvd (by omega) hd) hg3
        omega
      have hzero : tt = 0 ↔ t = 0 := by
        have hft : fracTop t b = 0 ↔ t = 0 := fracTop_zero' b3
        rw [htt]; constructor
        · intro h; refine hft.1 ?_; split at h <;> omega
        · intro h; have := hft.2 h; rw [this]; simp
      have HPUT : Hid (Calls Tryz.prog 36 #[.pointer (some ⟨w1.heap.size + 3, 0, none⟩), .string s, .int .i64 tt, .int .i64 bb] w4.drew fun e w' => e = .returned (.tuple #[]) ∧ w4.grownBy w' (some (w1.heap.size + 3)) ∧ ∃ l us vs, Work w' w1.heap.size (w1.heap.size + 3) l us vs false ∧ l.length = n ∧ us.length = n ∧ vs.length = n ∧ slv l = strv ss ∧ us = ts ∧ vs = bs ∧ bo = true) := by
        have hr0 := HRR.out
        unfold oneRows at hr0
        rw [HTO.out, HSMF.out] at hr0
        by_cases ht0 : t = 0
        · rw [decide_eq_true ht0] at hr0
          simp only [Bool.and_self, Prod.mk.injEq] at hr0
          obtain ⟨r1, r2, r3, r4⟩ := hr0
          have e0 : tt = 0 := hzero.2 ht0
          have hnn := HNN.out
          rw [← r1] at hnn
          obtain ⟨g0, c0, g1, c1, g2, c2, hbx, -⟩ := HW4.out
          rw [e0]
          refine (put_zero (w1.heap.size + 3) s bb w4.drew ((hbx.cell 3).trans rfl)).mono ?_
          rintro e w' ⟨rfl, rfl⟩
          refine ⟨rfl, ⟨rfl, rfl, rfl, Nat.le_refl _, fun _ _ _ => rfl⟩, [], [], [], HW4.out, hnn, hnn, hnn, by rw [← r1]; rfl, r2, r3, r4.symm⟩
        · rw [decide_eq_false ht0] at hr0
          simp only [Bool.and_self, Prod.mk.injEq] at hr0
          obtain ⟨r1, r2, r3, r4⟩ := hr0
          have hnn := HNN.out
          rw [← r1] at hnn
          refine (put_last w1.heap.size (w1.heap.size + 3) [] [] [] s tt bb w4.drew (by simp) rfl rfl (fun e => ht0 (hzero.1 e)) hsm2 hm (by show w1.heap.size ≤ w4.heap.size; omega) (fun g c _ => (find_nil _ _ s _).mono fun e w' h => ⟨h.1, by rw [← h.2]; exact Below.refl _ _⟩) HW4.out).mono ?_
          rintro e w' ⟨rfl, hg5, hw5⟩
          exact ⟨rfl, ⟨hg5.os, hg5.tape, hg5.output, hg5.size, hg5.block⟩, _, _, _, hw5, hnn, hnn, hnn, by rw [← r1]; rfl, by rw [← r2, htt]; rfl, by rw [← r3, hbb]; rfl, r4.symm⟩
      clear hb4 hw4 htt hbb q1 q2 hzero hsm2
      go_wp2_with fail
      refine wp_region_still_tail 8 (by kernel_rfl) (by kernel_rfl) ?_
      simp only [List.take_succ_cons, List.take_zero, List.drop_succ_cons, List.drop_zero]
      change wpStill _ _ (World.drew _) _ _ _
      repeat still_step
      refine wpStill_nil ?_
      change wpList _ _ _ _ _ (World.drew _)
      go_wp2_with (go_at_call 36; refine HPUT.out.mono ?_; rintro e w5 ⟨rfl, hg5, l5, u5, v5, hw5, n1, n2, n3, e5, f5, h5, o5⟩; have HW5 := Lib.hid hw5; have HG5 := Lib.hid hg5; have HE5 := Lib.hid (And.intro n1 (And.intro n2 (And.intro n3 (And.intro e5 (And.intro f5 (And.intro h5 o5)))))); clear hw5 hg5 n1 n2 n3 e5 f5 h5 o5)
      have HD5 := Lib.hid (l2Done_any w5 w1.heap.size (w1.heap.size + 3) l5 u5 v5 HW5.out)
      have HH5 := Lib.hid (HH4.out.grown HG5.out (by have := HH1.out.lt; intro e; injection e with e; omega))
      have HB5 : Hid (Below w.heap.size w w5) := Below.grown HB4.out HG5.out HB4.out.size (fun q hq => by have := HB1.out.size; injection hq with hq; omega)
      have hlt5 := HH5.out.lt
      refine HD5.out.mono ?_
      rintro e w6 ⟨hb6, v0, v1', v2', rfl, r0, r1, r2⟩
      obtain ⟨A0, c0, rfl⟩ := own_shape r0
      obtain ⟨A1, c1, rfl⟩ := own_shape r1
      obtain ⟨A2, c2, rfl⟩ := own_shape r2
      have hh6 := HH5.out.below hb6 hlt5
      obtain ⟨z0, z1, z2, y0, y1, y2⟩ := blk_three' hh6
      obtain ⟨u0, u1, u2⟩ := blk_three (set3_blk hh6 (.slice A0 l5.length c0) (.slice A1 u5.length c1) (.slice A2 v5.length c2))
      have HB6 := Lib.hid (HB5.out.trans (hb6.mono HB5.out.size))
      have hs15 : w.heap.size + 1 ≤ w1.heap.size := HH1.out.lt
      have HFIN : Hid (∀ x y z : Value, Texts (((w6.setCell ⟨w.heap.size, 0, none⟩ x).setCell ⟨w.heap.size, 1, none⟩ y).setCell ⟨w.heap.size, 2, none⟩ z) A0 ss ∧ Ints (((w6.setCell ⟨w.heap.size, 0, none⟩ x).setCell ⟨w.heap.size, 1, none⟩ y).setCell ⟨w.heap.size, 2, none⟩ z) A1 ts ∧ Ints (((w6.setCell ⟨w.heap.size, 0, none⟩ x).setCell ⟨w.heap.size, 1, none⟩ y).setCell ⟨w.heap.size, 2, none⟩ z) A2 bs) := by
        obtain ⟨n1, n2, n3, e5, f5, h5, o5⟩ := HE5.out
        intro x y z
        have k0 := ownsRow_setCell_belowA (q := w.heap.size) (i := 2) (ownsRow_setCell_belowA (q := w.heap.size) (i := 1) (ownsRow_setCell_belowA (q := w.heap.size) (i := 0) r0 (by omega) x) (by omega) y) (by omega) z
        have k1 := ownsRow_setCell_belowA (q := w.heap.size) (i := 2) (ownsRow_setCell_belowA (q := w.heap.size) (i := 1) (ownsRow_setCell_belowA (q := w.heap.size) (i := 0) r1 (by omega) x) (by omega) y) (by omega) z
        have k2 := ownsRow_setCell_belowA (q := w.heap.size) (i := 2) (ownsRow_setCell_belowA (q := w.heap.size) (i := 1) (ownsRow_setCell_belowA (q := w.heap.size) (i := 0) r2 (by omega) x) (by omega) y) (by omega) z
        rw [e5, n1] at k0
        rw [n2, f5] at k1
        rw [n3, h5] at k2
        exact ⟨texts_own HNN.out k0, ints_own (by rw [← f5]; exact n2) k1, ints_own (by rw [← h5]; exact n3) k2⟩
      clear hb6 hh6 r0 r1 r2
      go_wp2_with fail
      refine bodyPost_ret (v := .tuple #[.agg #[.slice A0 l5.length c0, .slice A1 u5.length c1, .slice A2 v5.length c2], .bool true]) ?_ rfl ?_
      · simp [results, Tryz.results10, go_sem, u0, u1, u2]
      · obtain ⟨n1, n2, n3, e5, f5, h5, o5⟩ := HE5.out
        refine ⟨((HB6.out.setCell (Nat.le_refl _) _).setCell (Nat.le_refl _) _).setCell (Nat.le_refl _) _, A0, A1, A2, c0, c1, c2, by rw [n1, n2, n3, o5], (HFIN.out _ _ _).1, (HFIN.out _ _ _).2.1, (HFIN.out _ _ _).2.2⟩

end Go.Proofs.YtopmkddmllmecaaGreatDoor
