/- Sums of the laws: how large they are, copies, and whether two are alike. -/
import Derived.Test.YtopmkddmllmecaaGreatDoorNatF
import Derived.Test.YtopmkddmllmecaaGreatDoorBsB
import Derived.Test.YtopmkddmllmecaaGreatDoorIntA
namespace Go.Proofs.YtopmkddmllmecaaGreatDoor
open Go.RowKit Rt Go.Lib

theorem szGo_le : ∀ (ss : List ByteArray) (l : Int), 0 ≤ szGo ss l → szGo ss l ≤ l
  | [], l, _ => Int.le_refl _
  | s :: r, l, h => by
    rw [szGo] at h ⊢
    split at h
    · omega
    · rename_i hn
      rw [if_neg hn]
      have := szGo_le r _ h
      omega

theorem szL_parts (ss : List ByteArray) (l : Int) (h0 : l ≤ 1048576) : szL ss l < 0 ∨ (0 ≤ szL ss l ∧ szL ss l ≤ 1048576 ∧ ss.length ≤ 1048576) := by
  by_cases h : szL ss l < 0
  · exact .inl h
  · refine .inr ⟨by omega, ?_, ?_⟩
    · unfold szL at h ⊢
      split at h
      · omega
      · rename_i hn
        rw [if_neg hn]
        have := szGo_le ss _ (show 0 ≤ szGo ss (l - ss.length) by omega)
        omega
    · unfold szL at h
      split at h
      · omega
      · omega

/-- What szSum gives. -/
def SzPost (w : World) (n0 n1 n2 : Nat) (e : Ending) (w' : World) : Prop :=
  Below w.heap.size w w' ∧ ∃ v : Int, e = .returned (.int .i64 v) ∧ (v < 0 ∨ (0 ≤ v ∧ n0 ≤ 1048576 ∧ n1 ≤ 1048576 ∧ n2 ≤ 1048576))

set_option maxHeartbeats 1600000 in
set_option maxRecDepth 100000 in
theorem szSum_any (A B C : Option Addr) (ca cb cc n1 n2 : Nat) (ss : List ByteArray) (w : World) (hs : ∀ s ∈ ss, s.size ≤ maxLen) (hl0 : ss.length ≤ maxLen) (hl1 : n1 ≤ maxLen) (hl2 : n2 ≤ maxLen) (hA : Texts w A ss) :
    Calls Tryz.prog 15 #[.agg #[.slice A ss.length ca, .slice B n1 cb, .slice C n2 cc], .int .i64 1048576] w (SzPost w ss.length n1 n2) := by
  have HZ : Hid (∀ W, Below w.heap.size w W → Calls Tryz.prog 25 #[.slice A ss.length ca, .int .i64 1048576] W fun e w' => e = .returned (.int .i64 (szL ss 1048576)) ∧ W = w') := fun W hb => szStringS_any A ca ss 1048576 W (by omega) (by omega) hl0 hs (hA.below hb)
  have HI1 : Hid (∀ W (l : Int), 0 ≤ l → l ≤ 1048576 → Calls Tryz.prog 48 #[.slice B n1 cb, .int .i64 l] W fun e w' => e = .returned (.int .i64 (if l - n1 < 0 then -1 else l - n1)) ∧ W = w') := fun W l h0 h1 => szIntS_any B cb n1 l W h0 h1 hl1
  have HI2 : Hid (∀ W (l : Int), 0 ≤ l → l ≤ 1048576 → Calls Tryz.prog 48 #[.slice C n2 cc, .int .i64 l] W fun e w' => e = .returned (.int .i64 (if l - n2 < 0 then -1 else l - n2)) ∧ W = w') := fun W l h0 h1 => szIntS_any C cc n2 l W h0 h1 hl2
  have hb0 : Below w.heap.size w (w.alloc (.cells #[.slice A ss.length ca, .slice B n1 cb, .slice C n2 cc] 31)) := by go_grown
  have HB0 := Lib.hid hb0
  have hp := szL_parts ss 1048576 (by omega)
  clear hA hs hb0
  generalize szL ss 1048576 = l at HZ hp
  go_enter Tryz.func15, Tryz.ntmps15
  go_wp2_with fail
  refine (HZ.out _ HB0.out).mono ?_
  rintro e w1 ⟨rfl, rfl⟩
  rcases hp with hp | ⟨p0, p1, p2⟩
  · have d1 : decide (l < 0) = true := by simpa using hp
    go_wp2_with fail
    go_ret
    exact ⟨HB0.out, -1, rfl, .inl (by omega)⟩
  · have d1 : decide (l < 0) = false := by rw [decide_eq_false_iff_not]; omega
    go_wp2_with fail
    refine (HI1.out _ l p0 p1).mono ?_
    rintro e w1 ⟨rfl, rfl⟩
    by_cases h1 : l - (n1 : Int) < 0
    · simp only [if_pos h1]
      go_wp2_with fail
      go_ret
      exact ⟨HB0.out, -1, rfl, .inl (by omega)⟩
    · simp only [if_neg h1]
      obtain ⟨l1, hl1'⟩ : ∃ l1, l1 = l - (n1 : Int) := ⟨_, rfl⟩
      rw [← hl1']
      have d2 : decide (l1 < 0) = false := by rw [decide_eq_false_iff_not]; omega
      have HL1 := Lib.hid hl1'
      have q1 : 0 ≤ l1 := by omega
      have q2 : l1 ≤ 1048576 := by omega
      have q3 : n1 ≤ 1048576 := by omega
      clear hl1' h1
      go_wp2_with fail
      refine (HI2.out _ l1 q1 q2).mono ?_
      rintro e w1 ⟨rfl, rfl⟩
      by_cases h2 : l1 - (n2 : Int) < 0
      · simp only [if_pos h2]
        go_wp2_with fail
        go_ret
        exact ⟨HB0.out, -1, rfl, .inl (by omega)⟩
      · simp only [if_neg h2]
        obtain ⟨l2, hl2'⟩ : ∃ l2, l2 = l1 - (n2 : Int) := ⟨_, rfl⟩
        rw [← hl2']
        have d3 : decide (l2 < 0) = false := by rw [decide_eq_false_iff_not]; omega
        have q4 : 0 ≤ l2 := by omega
        have q5 : n2 ≤ 1048576 := by omega
        clear hl2' h2
        go_wp2_with fail
        go_ret
        exact ⟨HB0.out, l2, rfl, .inr ⟨q4, p2, q3, q5⟩⟩

theorem Texts.far {w : World} {g0 g i : Nat} {ss : List ByteArray} (h : Texts w (some ⟨g0, 0, none⟩) ss) (hn : g0 ≠ g) (u : Value) : Texts (w.setCell ⟨g, i, none⟩ u) (some ⟨g0, 0, none⟩) ss := fun j s hs => by
  obtain ⟨g', o', e, hc⟩ := h j s hs
  injection e with e; injection e with e1 e2; subst e1; subst e2
  exact ⟨g0, 0, rfl, (World.cell?_of_block (a := ⟨g0, 0 + j, none⟩) (Below.heap_setCell _ _ _ g0 hn)).trans hc⟩

theorem Ints.far {w : World} {g0 g i : Nat} {ss : List Int} (h : Ints w (some ⟨g0, 0, none⟩) ss) (hn : g0 ≠ g) (u : Value) : Ints (w.setCell ⟨g, i, none⟩ u) (some ⟨g0, 0, none⟩) ss := fun j s hs => by
  obtain ⟨g', o', e, hc⟩ := h j s hs
  injection e with e; injection e with e1 e2; subst e1; subst e2
  exact ⟨g0, 0, rfl, (World.cell?_of_block (a := ⟨g0, 0 + j, none⟩) (Below.heap_setCell _ _ _ g0 hn)).trans hc⟩

/-- What toSum gives. -/
def ToPost (w : World) (ss : List ByteArray) (ts bs : List Int) (e : Ending) (w' : World) : Prop :=
  Below w.heap.size w w' ∧ ∃ g0 g1 g2 : Nat, e = .returned (.agg #[.slice (some ⟨g0, 0, none⟩) ss.length ss.length, .slice (some ⟨g1, 0, none⟩) ts.length ts.length, .slice (some ⟨g2, 0, none⟩) bs.length bs.length]) ∧ Texts w' (some ⟨g0, 0, none⟩) ss ∧ Ints w' (some ⟨g1, 0, none⟩) ts ∧ Ints w' (some ⟨g2, 0, none⟩) bs

set_option maxHeartbeats 3200000 in
set_option maxRecDepth 100000 in
theorem toSum_any (A B C : Option Addr) (ca cb cc : Nat) (ss : List ByteArray) (ts bs : List Int) (w : World) (h0 : ss.length ≤ 1048576) (h1 : ts.length ≤ 1048576) (h2 : bs.length ≤ 1048576) (hA : Texts w A ss) (hB : Ints w B ts) (hC : Ints w C bs) :
    Calls Tryz.prog 17 #[.agg #[.slice A ss.length ca, .slice B ts.length cb, .slice C bs.length cc]] w (ToPost w ss ts bs) := by
  have HA := Lib.hid hA
  have HB := Lib.hid hB
  have HC := Lib.hid hC
  clear hA hB hC
  go_enter Tryz.func17, Tryz.ntmps17
  go_wp2_with fail
  have hbT : Below w.heap.size w (((w.alloc (.cells #[.slice A ss.length ca, .slice B ts.length cb, .slice C bs.length cc] 31)).alloc (.cells #[.slice none 0 0, .slice none 0 0, .slice none 0 0] 25)).alloc (.cells #[.slice none 0 0, .slice none 0 0, .slice none 0 0] 25)) := by go_grown
  have hx0 : Blk (((w.alloc (.cells #[.slice A ss.length ca, .slice B ts.length cb, .slice C bs.length cc] 31)).alloc (.cells #[.slice none 0 0, .slice none 0 0, .slice none 0 0] 25)).alloc (.cells #[.slice none 0 0, .slice none 0 0, .slice none 0 0] 25)) w.heap.size 31 #[.slice A ss.length ca, .slice B ts.length cb, .slice C bs.length cc] := ((Blk.new w 31 _).alloc _).alloc _
  have hx1 : Blk (((w.alloc (.cells #[.slice A ss.length ca, .slice B ts.length cb, .slice C bs.length cc] 31)).alloc (.cells #[.slice none 0 0, .slice none 0 0, .slice none 0 0] 25)).alloc (.cells #[.slice none 0 0, .slice none 0 0, .slice none 0 0] 25)) (w.heap.size + 1) 25 #[.slice none 0 0, .slice none 0 0, .slice none 0 0] := by
    have h := (Blk.new (w.alloc (.cells #[.slice A ss.length ca, .slice B ts.length cb, .slice C bs.length cc] 31)) 25 #[.slice none 0 0, .slice none 0 0, .slice none 0 0]).alloc (.cells #[.slice none 0 0, .slice none 0 0, .slice none 0 0] 25)
    simpa using h
  have hx2 : Blk (((w.alloc (.cells #[.slice A ss.length ca, .slice B ts.length cb, .slice C bs.length cc] 31)).alloc (.cells #[.slice none 0 0, .slice none 0 0, .slice none 0 0] 25)).alloc (.cells #[.slice none 0 0, .slice none 0 0, .slice none 0 0] 25)) (w.heap.size + 1 + 1) 25 #[.slice none 0 0, .slice none 0 0, .slice none 0 0] := by
    have h := Blk.new ((w.alloc (.cells #[.slice A ss.length ca, .slice B ts.length cb, .slice C bs.length cc] 31)).alloc (.cells #[.slice none 0 0, .slice none 0 0, .slice none 0 0] 25)) 25 #[.slice none 0 0, .slice none 0 0, .slice none 0 0]
    simpa using h
  have hzz : (((w.alloc (.cells #[.slice A ss.length ca, .slice B ts.length cb, .slice C bs.length cc] 31)).alloc (.cells #[.slice none 0 0, .slice none 0 0, .slice none 0 0] 25)).alloc (.cells #[.slice none 0 0, .slice none 0 0, .slice none 0 0] 25)).heap.size = w.heap.size + 3 := by simp
  generalize (((w.alloc (.cells #[.slice A ss.length ca, .slice B ts.length cb, .slice C bs.length cc] 31)).alloc (.cells #[.slice none 0 0, .slice none 0 0, .slice none 0 0] 25)).alloc (.cells #[.slice none 0 0, .slice none 0 0, .slice none 0 0] 25)) = W0 at *
  refine (toStringS_any A ca ss W0 h0 (HA.out.below hbT)).mono ?_
  rintro e w1 ⟨hb1, rfl, ho1⟩
  have hs1 := hb1.size
  rw [hzz] at ho1 hs1 ⊢
  have t0 := Texts.own ho1
  have HT0 : Hid (Texts (w1.setCell ⟨w.heap.size + 1 + 1, 0, none⟩ (.slice (some ⟨w.heap.size + 3, 0, none⟩) ss.length ss.length)) (some ⟨w.heap.size + 3, 0, none⟩) ss) := t0.far (by omega) _
  have hc1 : Below w.heap.size w w1 := hbT.trans (hb1.mono (by omega))
  have HB1 : Hid (Below w.heap.size w (w1.setCell ⟨w.heap.size + 1 + 1, 0, none⟩ (.slice (some ⟨w.heap.size + 3, 0, none⟩) ss.length ss.length))) := hc1.setCell (by simp; omega) _
  have hy0 := hx0.below hb1 (by omega)
  have hy1 := hx1.below hb1 (by omega)
  have hy2 := hx2.below hb1 (by omega)
  have HX0 : Hid (Blk (w1.setCell ⟨w.heap.size + 1 + 1, 0, none⟩ (.slice (some ⟨w.heap.size + 3, 0, none⟩) ss.length ss.length)) _ _ _) := hy0.far (by simp; omega) _
  have HX1 : Hid (Blk (w1.setCell ⟨w.heap.size + 1 + 1, 0, none⟩ (.slice (some ⟨w.heap.size + 3, 0, none⟩) ss.length ss.length)) _ _ _) := hy1.far (by simp) _
  have HX2 : Hid (Blk (w1.setCell ⟨w.heap.size + 1 + 1, 0, none⟩ (.slice (some ⟨w.heap.size + 3, 0, none⟩) ss.length ss.length)) _ _ _) := hy2.set_ 0 _
  have HSZ : Hid (w.heap.size + 3 ≤ (w1.setCell ⟨w.heap.size + 1 + 1, 0, none⟩ (.slice (some ⟨w.heap.size + 3, 0, none⟩) ss.length ss.length)).heap.size) := by show _ ≤ _; simpa using hs1
  obtain ⟨a0, a1, a2⟩ := blk_three hy0
  obtain ⟨c0, c1, c2, f0, f1, f2⟩ := blk_three' hy2
  clear hb1 ho1 t0 hc1 hy0 hy1 hy2 hx0 hx1 hx2 hbT hs1 hzz
  have n0 := blk_three HX0.out
  obtain ⟨m0, m1, m2⟩ := n0
  go_wp2_with fail
  generalize (w1.setCell ⟨w.heap.size + 1 + 1, 0, none⟩ (.slice (some ⟨w.heap.size + 3, 0, none⟩) ss.length ss.length)) = W1 at *
  clear a0 a1 a2 c0 c1 c2 f0 f1 f2 m0 m1 m2
  refine (toIntS_any B cb ts W1 h1 (HB.out.below HB1.out)).mono ?_
  rintro e w2 ⟨hb2, rfl, ho2⟩
  have hsz1 := HSZ.out
  have hs2 := hb2.size
  have HT1 : Hid (Ints (w2.setCell ⟨w.heap.size + 1 + 1, 1, none⟩ (.slice (some ⟨W1.heap.size, 0, none⟩) ts.length ts.length)) (some ⟨W1.heap.size, 0, none⟩) ts) := (Ints.own ho2).far (by omega) _
  have HT0 : Hid (Texts (w2.setCell ⟨w.heap.size + 1 + 1, 1, none⟩ (.slice (some ⟨W1.heap.size, 0, none⟩) ts.length ts.length)) (some ⟨w.heap.size + 3, 0, none⟩) ss) := (HT0.out.below hb2).far (by omega) _
  have HB2 : Hid (Below w.heap.size w (w2.setCell ⟨w.heap.size + 1 + 1, 1, none⟩ (.slice (some ⟨W1.heap.size, 0, none⟩) ts.length ts.length))) := (HB1.out.trans (hb2.mono (by omega))).setCell (by simp; omega) _
  have hy0 := HX0.out.below hb2 (by omega)
  have hy1 := HX1.out.below hb2 (by omega)
  have hy2 := HX2.out.below hb2 (by omega)
  have HX0 : Hid (Blk (w2.setCell ⟨w.heap.size + 1 + 1, 1, none⟩ (.slice (some ⟨W1.heap.size, 0, none⟩) ts.length ts.length)) _ _ _) := hy0.far (by simp; omega) _
  have HX1 : Hid (Blk (w2.setCell ⟨w.heap.size + 1 + 1, 1, none⟩ (.slice (some ⟨W1.heap.size, 0, none⟩) ts.length ts.length)) _ _ _) := hy1.far (by simp) _
  have HX2 : Hid (Blk (w2.setCell ⟨w.heap.size + 1 + 1, 1, none⟩ (.slice (some ⟨W1.heap.size, 0, none⟩) ts.length ts.length)) _ _ _) := hy2.set_ 1 _
  have HSZ : Hid (w.heap.size + 3 ≤ (w2.setCell ⟨w.heap.size + 1 + 1, 1, none⟩ (.slice (some ⟨W1.heap.size, 0, none⟩) ts.length ts.length)).heap.size) := by show _ ≤ _; simp; omega
  obtain ⟨c0, c1, c2, f0, f1, f2⟩ := blk_three' hy2
  obtain ⟨m0, m1, m2⟩ := blk_three HX0.out
  clear hb2 ho2 hy0 hy1 hy2 hs2
  go_wp2_with fail
  generalize (w2.setCell ⟨w.heap.size + 1 + 1, 1, none⟩ (.slice (some ⟨W1.heap.size, 0, none⟩) ts.length ts.length)) = W2 at *
  clear c0 c1 c2 f0 f1 f2 m0 m1 m2
  refine (toIntS_any C cc bs W2 h2 (HC.out.below HB2.out)).mono ?_
  rintro e w3 ⟨hb3, rfl, ho3⟩
  have hsz2 := HSZ.out
  have hs3 := hb3.size
  have HT2 : Hid (Ints (w3.setCell ⟨w.heap.size + 1 + 1, 2, none⟩ (.slice (some ⟨W2.heap.size, 0, none⟩) bs.length bs.length)) (some ⟨W2.heap.size, 0, none⟩) bs) := (Ints.own ho3).far (by omega) _
  have HT1 : Hid (Ints (w3.setCell ⟨w.heap.size + 1 + 1, 2, none⟩ (.slice (some ⟨W2.heap.size, 0, none⟩) bs.length bs.length)) (some ⟨W1.heap.size, 0, none⟩) ts) := (HT1.out.below hb3).far (by omega) _
  have HT0 : Hid (Texts (w3.setCell ⟨w.heap.size + 1 + 1, 2, none⟩ (.slice (some ⟨W2.heap.size, 0, none⟩) bs.length bs.length)) (some ⟨w.heap.size + 3, 0, none⟩) ss) := (HT0.out.below hb3).far (by omega) _
  have HB3 : Hid (Below w.heap.size w (w3.setCell ⟨w.heap.size + 1 + 1, 2, none⟩ (.slice (some ⟨W2.heap.size, 0, none⟩) bs.length bs.length))) := (HB2.out.trans (hb3.mono (by omega))).setCell (by simp; omega) _
  have hy1 := HX1.out.below hb3 (by omega)
  have hy2 := HX2.out.below hb3 (by omega)
  have HX1 : Hid (Blk (w3.setCell ⟨w.heap.size + 1 + 1, 2, none⟩ (.slice (some ⟨W2.heap.size, 0, none⟩) bs.length bs.length)) (w.heap.size + 1) 25 #[.slice none 0 0, .slice none 0 0, .slice none 0 0]) := hy1.far (by simp) _
  have HX2 : Hid (Blk (w3.setCell ⟨w.heap.size + 1 + 1, 2, none⟩ (.slice (some ⟨W2.heap.size, 0, none⟩) bs.length bs.length)) (w.heap.size + 1 + 1) 25 #[.slice (some ⟨w.heap.size + 3, 0, none⟩) ss.length ss.length, .slice (some ⟨W1.heap.size, 0, none⟩) ts.length ts.length, .slice (some ⟨W2.heap.size, 0, none⟩) bs.length bs.length]) := by
    have h9 := hy2.set_ 2 (.slice (some ⟨W2.heap.size, 0, none⟩) bs.length bs.length)
    exact (by simpa using h9 : Blk (w3.setCell ⟨w.heap.size + 1 + 1, 2, none⟩ (.slice (some ⟨W2.heap.size, 0, none⟩) bs.length bs.length)) (w.heap.size + 1 + 1) 25 #[.slice (some ⟨w.heap.size + 3, 0, none⟩) ss.length ss.length, .slice (some ⟨W1.heap.size, 0, none⟩) ts.length ts.length, .slice (some ⟨W2.heap.size, 0, none⟩) bs.length bs.length])
  obtain ⟨c0, c1, c2, f0, f1, f2⟩ := blk_three' hy2
  obtain ⟨p0, p1, p2, p3, p4, p5⟩ := blk_three' HX1.out
  obtain ⟨r0, r1, r2⟩ := blk_three HX2.out
  clear hb3 ho3 hy1 hy2 hs3
  go_wp2_with fail
  obtain ⟨u0, u1, u2⟩ := blk_three (set3_blk HX1.out (.slice (some ⟨w.heap.size + 3, 0, none⟩) ss.length ss.length) (.slice (some ⟨W1.heap.size, 0, none⟩) ts.length ts.length) (.slice (some ⟨W2.heap.size, 0, none⟩) bs.length bs.length))
  refine bodyPost_ret (v := .agg #[.slice (some ⟨w.heap.size + 3, 0, none⟩) ss.length ss.length, .slice (some ⟨W1.heap.size, 0, none⟩) ts.length ts.length, .slice (some ⟨W2.heap.size, 0, none⟩) bs.length bs.length]) ?_ rfl ?_
  · simp [results, Tryz.results17, go_sem, u0, u1, u2]
  · refine ⟨((HB3.out.setCell (by simp) _).setCell (by simp) _).setCell (by simp) _, _, _, _, rfl, ?_, ?_, ?_⟩
    · exact ((HT0.out.far (by omega) _).far (by omega) _).far (by omega) _
    · exact ((HT1.out.far (by omega) _).far (by omega) _).far (by omega) _
    · exact ((HT2.out.far (by omega) _).far (by omega) _).far (by omega) _

set_option maxHeartbeats 1600000 in
set_option maxRecDepth 100000 in
theorem eqSum_same (A B C A' B' C' : Option Addr) (ca cb cc ca' cb' cc' : Nat) (ss : List ByteArray) (ts bs : List Int) (w : World) (h0 : ss.length ≤ maxLen) (h1 : ts.length ≤ maxLen) (h2 : bs.length ≤ maxLen) (hA : Texts w A ss) (hB : Ints w B ts) (hC : Ints w C bs) (hA' : Texts w A' ss) (hB' : Ints w B' ts) (hC' : Ints w C' bs) :
    Calls Tryz.prog 12 #[.agg #[.slice A ss.length ca, .slice B ts.length cb, .slice C bs.length cc], .agg #[.slice A' ss.length ca', .slice B' ts.length cb', .slice C' bs.length cc']] w fun e w' => e = .returned (.bool true) ∧ Below w.heap.size w w' := by
  have HQ0 : Hid (∀ W, Below w.heap.size w W → Calls Tryz.prog 29 #[.slice A ss.length ca, .slice A' ss.length ca'] W fun e w' => e = .returned (.bool true) ∧ Below W.heap.size W w') := fun W hb => eqStringS_same A A' ca ca' ss W h0 (hA.below hb) (hA'.below hb)
  have HQ1 : Hid (∀ W, Below w.heap.size w W → Calls Tryz.prog 43 #[.slice B ts.length cb, .slice B' ts.length cb'] W fun e w' => e = .returned (.bool true) ∧ Below W.heap.size W w') := fun W hb => eqIntS_same B B' cb cb' ts W h1 (hB.below hb) (hB'.below hb)
  have HQ2 : Hid (∀ W, Below w.heap.size w W → Calls Tryz.prog 43 #[.slice C bs.length cc, .slice C' bs.length cc'] W fun e w' => e = .returned (.bool true) ∧ Below W.heap.size W w') := fun W hb => eqIntS_same C C' cc cc' bs W h2 (hC.below hb) (hC'.below hb)
  clear hA hB hC hA' hB' hC'
  go_enter Tryz.func12, Tryz.ntmps12
  go_wp2_with fail
  refine (HQ0.out _ (by go_grown)).mono ?_
  rintro e w1 ⟨rfl, hb1⟩
  have HW1 : Hid (Below w.heap.size w w1) := (show Below w.heap.size w ((w.alloc (.cells #[.slice A ss.length ca, .slice B ts.length cb, .slice C bs.length cc] 25)).alloc (.cells #[.slice A' ss.length ca', .slice B' ts.length cb', .slice C' bs.length cc'] 25)) by go_grown).trans (hb1.mono (by simp; omega))
  have hx0 := (((Blk.new w 25 #[.slice A ss.length ca, .slice B ts.length cb, .slice C bs.length cc]).alloc (.cells #[.slice A' ss.length ca', .slice B' ts.length cb', .slice C' bs.length cc'] 25)).below hb1 (by simp; omega))
  have hx1 := ((Blk.new (w.alloc (.cells #[.slice A ss.length ca, .slice B ts.length cb, .slice C bs.length cc] 25)) 25 #[.slice A' ss.length ca', .slice B' ts.length cb', .slice C' bs.length cc']).below hb1 (by simp))
  rw [show (w.alloc (.cells #[.slice A ss.length ca, .slice B ts.length cb, .slice C bs.length cc] 25)).heap.size = w.heap.size + 1 by simp] at hx1
  have HX0 := Lib.hid hx0
  have HX1 := Lib.hid hx1
  obtain ⟨a0, a1, a2⟩ := blk_three hx0
  obtain ⟨b0, b1, b2⟩ := blk_three hx1
  clear hb1 hx0 hx1
  go_wp2_with fail
  refine (HQ1.out _ HW1.out).mono ?_
  rintro e w2 ⟨rfl, hb2⟩
  have HW2 := Lib.hid (HW1.out.trans (hb2.mono HW1.out.size))
  have hx0 := HX0.out.below hb2 HX0.out.lt
  have hx1 := HX1.out.below hb2 HX1.out.lt
  clear a0 a1 a2 b0 b1 b2 hb2
  obtain ⟨a0, a1, a2⟩ := blk_three hx0
  obtain ⟨b0, b1, b2⟩ := blk_three hx1
  clear hx0 hx1
  go_wp2_with fail
  refine (HQ2.out _ HW2.out).mono ?_
  rintro e w3 ⟨rfl, hb3⟩
  have HW3 := Lib.hid (HW2.out.trans (hb3.mono HW2.out.size))
  clear hb3
  go_wp2_with fail
  go_ret
  exact ⟨rfl, HW3.out⟩

end Go.Proofs.YtopmkddmllmecaaGreatDoor
