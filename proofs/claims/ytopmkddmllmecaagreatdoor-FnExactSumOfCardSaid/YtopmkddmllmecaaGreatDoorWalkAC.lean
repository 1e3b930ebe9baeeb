/- The walk of the law of SumOf. -/
import Derived.Test.YtopmkddmllmecaaGreatDoorSoA
import Derived.Test.YtopmkddmllmecaaGreatDoorSmB
import Derived.Test.YtopmkddmllmecaaGreatDoorMkA
import Derived.Test.YtopmkddmllmecaaGreatDoorSumC
import Derived.Test.YtopmkddmllmecaaGreatDoorSpecK
set_option linter.unusedSimpArgs false
set_option linter.unusedVariables false
namespace Go.Proofs.YtopmkddmllmecaaGreatDoor
open Go.RowKit Rt Go.Lib

def SumRows (w : World) (n : Nat) (ss : List ByteArray) (ts bs : List Int) (bo : Bool) (e : Ending) (w' : World) : Prop :=
  Below w.heap.size w w' ∧ ∃ A B C ca cb cc, e = .returned (.tuple #[.agg #[.slice A n ca, .slice B n cb, .slice C n cc], .bool bo]) ∧ Rows3 w' w.heap.size A B C ca cb cc n (strv ss) (intv ts) (intv bs)

theorem OneOut.rows {w w' : World} {key : B} {t b : Int} {e : Ending} {n : Nat} {ss : List ByteArray} {ts bs : List Int} {bo : Bool} (hr : oneRows key t b = (ss, ts, bs, bo)) (hn : ss.length = n) (h : OneOut w key t b e w') : SumRows w n ss ts bs bo e w' := by
  unfold oneRows at hr
  unfold OneOut at h
  cases h1 : (termOf key).isSome && smallF t b
  · rw [h1] at h hr
    simp only [Prod.mk.injEq] at hr
    obtain ⟨rfl, rfl, rfl, rfl⟩ := hr
    obtain ⟨hb, rfl⟩ := h
    subst hn
    exact ⟨hb, none, none, none, 0, 0, 0, rfl, ⟨rfl, .inl ⟨rfl, rfl⟩⟩, ⟨rfl, .inl ⟨rfl, rfl⟩⟩, ⟨rfl, .inl ⟨rfl, rfl⟩⟩, fun q h => by simp [Value.ownBlock] at h⟩
  · cases h2 : decide (t = 0)
    · rw [h1, h2] at h hr
      simp only [Prod.mk.injEq] at hr
      obtain ⟨rfl, rfl, rfl, rfl⟩ := hr
      obtain ⟨hb, v0, v1, v2, rfl, r0, r1, r2, r12⟩ := h
      subst hn
      obtain ⟨A, ca, rfl⟩ := own_shape r0
      obtain ⟨B, cb, rfl⟩ := own_shape r1
      obtain ⟨C, cc, rfl⟩ := own_shape r2
      exact ⟨hb, A, B, C, ca, cb, cc, rfl, r0, r1, r2, r12⟩
    · rw [h1, h2] at h hr
      simp only [Prod.mk.injEq] at hr
      obtain ⟨rfl, rfl, rfl, rfl⟩ := hr
      obtain ⟨hb, v0, v1, v2, rfl, r0, r1, r2, r12⟩ := h
      subst hn
      obtain ⟨A, ca, rfl⟩ := own_shape r0
      obtain ⟨B, cb, rfl⟩ := own_shape r1
      obtain ⟨C, cc, rfl⟩ := own_shape r2
      exact ⟨hb, A, B, C, ca, cb, cc, rfl, r0, r1, r2, r12⟩

theorem Rows3.reads {w : World} {Bb ca cb cc n : Nat} {A B C : Option Addr} {ss : List ByteArray} {ts bs : List Int} (h : Rows3 w Bb A B C ca cb cc n (strv ss) (intv ts) (intv bs)) (h0 : ss.length = n) (h1 : ts.length = n) (h2 : bs.length = n) : Texts w A ss ∧ Ints w B ts ∧ Ints w C bs :=
  ⟨texts_own h0 h.1, ints_own h1 h.2.1, ints_own h2 h.2.2.1⟩

theorem Rows3.mono {w : World} {Bb Bc ca cb cc n : Nat} {A B C : Option Addr} {xs ys zs : List Value} (h : Rows3 w Bb A B C ca cb cc n xs ys zs) (hb : Bc ≤ Bb) : Rows3 w Bc A B C ca cb cc n xs ys zs :=
  ⟨own_mono h.1 hb, own_mono h.2.1 hb, own_mono h.2.2.1 hb, h.2.2.2⟩

set_option maxHeartbeats 3200000 in
set_option maxRecDepth 100000 in
theorem walkSumOf (s : ByteArray) (t b : Int) (w : World) (hs : s.size ≤ maxLen) :
    Calls Tryz.prog 3 #[.string s, .int .i64 t, .int .i64 b] w fun e w' => e = .returned (.bool true) ∧ Below w.heap.size w w' := by
  obtain ⟨n, ss, ts, bs, bo, hr, hn, l0, l1, l2⟩ := oneRows_len s.data.toList t b
  have HS : Hid (∀ W, Calls Tryz.prog 10 #[.string s, .int .i64 t, .int .i64 b] W (SumReads W n ss ts bs bo)) := fun W => specSumOf l1Bag_any s t b W hs n ss ts bs bo hr l0
  have HI : Hid (∀ W, Calls Tryz.prog 11 #[.string s, .int .i64 t, .int .i64 b] W (SumRows W n ss ts bs bo)) := fun W => (implSumOf s t b W hs).mono fun e w' h => OneOut.rows hr l0 h
  have HEQ : Hid (∀ (W : World) (A B C A' B' C' : Option Addr) (ca cb cc ca' cb' cc' : Nat), Texts W A ss → Ints W B ts → Ints W C bs → Texts W A' ss → Ints W B' ts → Ints W C' bs → Calls Tryz.prog 12 #[.agg #[.slice A n ca, .slice B n cb, .slice C n cc], .agg #[.slice A' n ca', .slice B' n cb', .slice C' n cc']] W fun e w' => e = .returned (.bool true) ∧ Below W.heap.size W w') := fun W A B C A' B' C' ca cb cc ca' cb' cc' h0 h1 h2 h3 h4 h5 => by
    have := eqSum_same A B C A' B' C' ca cb cc ca' cb' cc' ss ts bs W (by unfold maxLen; omega) (by unfold maxLen; omega) (by unfold maxLen; omega) h0 h1 h2 h3 h4 h5
    rw [l0, l1, l2] at this
    exact this
  have HLL := Lib.hid (And.intro l0 (And.intro l1 l2))
  obtain ⟨m, hm⟩ : ∃ m, m = 1 + n + n + n := ⟨_, rfl⟩
  have HMK : Hid (∀ (W : World) (Bb ca cb cc : Nat) (A B C : Option Addr) (xs ys zs : List Value), Bb ≤ W.heap.size → Rows3 W Bb A B C ca cb cc n xs ys zs → Calls Tryz.prog 13 #[.agg #[.slice A n ca, .slice B n cb, .slice C n cc], .int .i64 1] W fun e w' => e = .returned (.int .i64 (m : Nat)) ∧ Below Bb W w' ∧ Rows3 w' Bb A B C ca cb cc n (strv (marks n 1)) (intv (imk n (1 + n))) (intv (imk n (1 + n + n))) ∧ KeepsBut W w' A B C ca cb cc n) := fun W Bb ca cb cc A B C xs ys zs h0 h1 => markSum_any Bb ca cb cc n 1 m A B C xs ys zs W (by omega) (by omega) (by omega) hm h0 h1
  have HHL : Hid (∀ (W : World) (Bb ca cb cc : Nat) (A B C : Option Addr), Rows3 W Bb A B C ca cb cc n (strv (marks n 1)) (intv (imk n (1 + n))) (intv (imk n (1 + n + n))) → Calls Tryz.prog 14 #[.agg #[.slice A n ca, .slice B n cb, .slice C n cc], .int .i64 1] W fun e w' => e = .returned (.int .i64 (m : Nat)) ∧ Below W.heap.size W w') := fun W Bb ca cb cc A B C h1 => heldSum_same Bb ca cb cc n 1 m A B C W (by omega) (by omega) (by omega) hm h1
  have HM := Lib.hid hm
  have hm2 : m ≤ 4 := by omega
  clear hr l0 l1 l2 hm
  unfold maxLen at hs
  by_cases h1 : s.size ≤ 1048576
  · cases bo
    all_goals
      go_enter Tryz.func3, Tryz.ntmps3
      go_wp2_with fail
      refine (HS.out w).mono ?_
      rintro e w1 ⟨hb1, A0, B0, C0, a0, b0, c0, rfl, x0, x1, x2⟩
      have HB1 := Lib.hid hb1
      have HX1 := Lib.hid (And.intro x0 (And.intro x1 x2))
      clear hb1 x0 x1 x2
      go_wp2_with fail
      have HBX1 := Lib.hid (Blk.new w1 25 #[.slice A0 n a0, .slice B0 n b0, .slice C0 n c0])
      have HC1 : Hid (Below w1.heap.size w1 (w1.alloc (.cells #[.slice A0 n a0, .slice B0 n b0, .slice C0 n c0] 25))) := (Below.refl w1.heap.size w1).alloc (Nat.le_refl _) _
      have HX1a : Hid (Texts (w1.alloc (.cells #[.slice A0 n a0, .slice B0 n b0, .slice C0 n c0] 25)) A0 ss ∧ Ints (w1.alloc (.cells #[.slice A0 n a0, .slice B0 n b0, .slice C0 n c0] 25)) B0 ts ∧ Ints (w1.alloc (.cells #[.slice A0 n a0, .slice B0 n b0, .slice C0 n c0] 25)) C0 bs) := ⟨HX1.out.1.below HC1.out, HX1.out.2.1.below HC1.out, HX1.out.2.2.below HC1.out⟩
      have HBa := Lib.hid (HB1.out.trans (HC1.out.mono HB1.out.size))
      have hlta := HBX1.out.lt
      generalize w1.alloc (.cells #[.slice A0 n a0, .slice B0 n b0, .slice C0 n c0] 25) = Wa at *
      have hwa : w.heap.size ≤ Wa.heap.size := HBa.out.size
      refine (HI.out Wa).mono ?_
      rintro e w2 ⟨hb2, A2, B2, C2, a2, b2, c2, rfl, hr2⟩
      have hs2 := hb2.size
      have HC2 : Hid (Below w2.heap.size w2 (w2.alloc (.cells #[.slice A2 n a2, .slice B2 n b2, .slice C2 n c2] 25))) := (Below.refl w2.heap.size w2).alloc (Nat.le_refl _) _
      have HBX2 := Lib.hid (Blk.new w2 25 #[.slice A2 n a2, .slice B2 n b2, .slice C2 n c2])
      have HR2 := Lib.hid (hr2.below HC2.out)
      have hl2 : ∀ q, (Value.slice A2 n a2).ownBlock = some q ∨ (Value.slice B2 n b2).ownBlock = some q ∨ (Value.slice C2 n c2).ownBlock = some q → q < w2.heap.size := fun q hq => by
        rcases hq with h | h | h
        · exact (own_block_lt hr2.1 q h).2
        · exact (own_block_lt hr2.2.1 q h).2
        · exact (own_block_lt hr2.2.2.1 q h).2
      have hbb : Below Wa.heap.size Wa (w2.alloc (.cells #[.slice A2 n a2, .slice B2 n b2, .slice C2 n c2] 25)) := hb2.trans (HC2.out.mono hs2)
      have HBB := Lib.hid hbb
      have HX2 : Hid (Texts (w2.alloc (.cells #[.slice A2 n a2, .slice B2 n b2, .slice C2 n c2] 25)) A0 ss ∧ Ints (w2.alloc (.cells #[.slice A2 n a2, .slice B2 n b2, .slice C2 n c2] 25)) B0 ts ∧ Ints (w2.alloc (.cells #[.slice A2 n a2, .slice B2 n b2, .slice C2 n c2] 25)) C0 bs) := ⟨HX1a.out.1.below hbb, HX1a.out.2.1.below hbb, HX1a.out.2.2.below hbb⟩
      have HBX1b := Lib.hid (HBX1.out.below hbb hlta)
      have HBb := Lib.hid (HBa.out.trans (hbb.mono hwa))
      have hltb := HBX2.out.lt
      have hszb : Wa.heap.size ≤ (w2.alloc (.cells #[.slice A2 n a2, .slice B2 n b2, .slice C2 n c2] 25)).heap.size := hbb.size
      have HL2 := Lib.hid hl2
      obtain ⟨x0, x1, x2⟩ := blk_three HBX1b.out
      obtain ⟨y0, y1, y2⟩ := blk_three HBX2.out
      have ht2 := HR2.out.reads HLL.out.1 HLL.out.2.1 HLL.out.2.2
      have HT2 := Lib.hid ht2
      clear hb2 hr2 hl2 hbb ht2
      go_wp2_with fail
      generalize w2.alloc (.cells #[.slice A2 n a2, .slice B2 n b2, .slice C2 n c2] 25) = Wb at *
      refine (HEQ.out Wb _ _ _ _ _ _ _ _ _ _ _ _ HT2.out.1 HT2.out.2.1 HT2.out.2.2 HX2.out.1 HX2.out.2.1 HX2.out.2.2).mono ?_
      rintro e w3 ⟨rfl, hb3⟩
      have HR3 := Lib.hid (HR2.out.below hb3)
      have HY3 := Lib.hid (HBX2.out.below hb3 hltb)
      have HB3 : Hid (Below Wa.heap.size Wa w3) := HBB.out.trans (hb3.mono hszb)
      have hs3 : w2.heap.size < w3.heap.size := Nat.lt_of_lt_of_le hltb hb3.size
      clear hb3 x0 x1 x2 y0 y1 y2
      obtain ⟨y0, y1, y2⟩ := blk_three HY3.out
      go_wp2_with fail
      refine (HMK.out w3 Wa.heap.size _ _ _ _ _ _ _ _ _ HB3.out.size HR3.out).mono ?_
      rintro e w4 ⟨rfl, hb4, hr4, hk4⟩
      have HR4 := Lib.hid hr4
      have HY4 : Hid (Blk w4 w2.heap.size 25 #[.slice A2 n a2, .slice B2 n b2, .slice C2 n c2]) := (hk4 w2.heap.size hs3 (fun e => absurd (HL2.out _ (.inl e)) (Nat.lt_irrefl _)) (fun e => absurd (HL2.out _ (.inr (.inl e))) (Nat.lt_irrefl _)) (fun e => absurd (HL2.out _ (.inr (.inr e))) (Nat.lt_irrefl _))).trans HY3.out
      have HB4 : Hid (Below Wa.heap.size Wa w4) := HB3.out.trans hb4
      clear hb4 hr4 hk4 y0 y1 y2
      obtain ⟨y0, y1, y2⟩ := blk_three HY4.out
      go_wp2_with fail
      refine (HHL.out w4 Wa.heap.size _ _ _ _ _ _ HR4.out).mono ?_
      rintro e w5 ⟨rfl, hb5⟩
      have HR5 := Lib.hid (HR4.out.below hb5)
      have HY5 := Lib.hid (HY4.out.below hb5 HY4.out.lt)
      have HB5 : Hid (Below Wa.heap.size Wa w5) := HB4.out.trans (hb5.mono HB4.out.size)
      clear hb5 y0 y1 y2
      have d1 : decide (((m : Nat) : Int) < 0) = false := by rw [decide_eq_false_iff_not]; omega
      have d2 : (((m : Nat) : Int) != ((m : Nat) : Int)) = false := by simp
      go_wp2_with fail
      refine (HI.out w5).mono ?_
      rintro e w6 ⟨hb6, A6, B6, C6, a6, b6, c6, rfl, hr6⟩
      have HC6 : Hid (Below w6.heap.size w6 (w6.alloc (.cells #[.slice A6 n a6, .slice B6 n b6, .slice C6 n c6] 25))) := (Below.refl w6.heap.size w6).alloc (Nat.le_refl _) _
      have HBX6 := Lib.hid (Blk.new w6 25 #[.slice A6 n a6, .slice B6 n b6, .slice C6 n c6])
      have hb6' : Below w5.heap.size w5 (w6.alloc (.cells #[.slice A6 n a6, .slice B6 n b6, .slice C6 n c6] 25)) := hb6.trans (HC6.out.mono hb6.size)
      have HT6 := Lib.hid ((hr6.below HC6.out).reads HLL.out.1 HLL.out.2.1 HLL.out.2.2)
      have HY6 := Lib.hid (HY5.out.below hb6' HY5.out.lt)
      have HR6 := Lib.hid (HR5.out.below hb6')
      have HB6 : Hid (Below Wa.heap.size Wa (w6.alloc (.cells #[.slice A6 n a6, .slice B6 n b6, .slice C6 n c6] 25))) := HB5.out.trans (hb6'.mono HB5.out.size)
      have HX6 := Lib.hid (And.intro (HX1a.out.1.below HB6.out) (And.intro (HX1a.out.2.1.below HB6.out) (HX1a.out.2.2.below HB6.out)))
      have HBX1c := Lib.hid (HBX1.out.below HB6.out hlta)
      have hltc := HBX6.out.lt
      clear hb6 hb6' hr6
      obtain ⟨z0, z1, z2⟩ := blk_three HBX6.out
      obtain ⟨x0, x1, x2⟩ := blk_three HBX1c.out
      obtain ⟨y0, y1, y2⟩ := blk_three HY6.out
      go_wp2_with fail
      generalize w6.alloc (.cells #[.slice A6 n a6, .slice B6 n b6, .slice C6 n c6] 25) = Wc at *
      first
        | refine (HEQ.out Wc _ _ _ _ _ _ _ _ _ _ _ _ HT6.out.1 HT6.out.2.1 HT6.out.2.2 HX6.out.1 HX6.out.2.1 HX6.out.2.2).mono ?_
        | refine (HEQ.out Wc _ _ _ _ _ _ _ _ _ _ _ _ HX6.out.1 HX6.out.2.1 HX6.out.2.2 HT6.out.1 HT6.out.2.1 HT6.out.2.2).mono ?_
      rintro e w7 ⟨rfl, hb7⟩
      have HR7 := Lib.hid (HR6.out.below hb7)
      have HY7 := Lib.hid (HY6.out.below hb7 HY6.out.lt)
      have HB7 : Hid (Below Wa.heap.size Wa w7) := HB6.out.trans (hb7.mono HB6.out.size)
      clear hb7 x0 x1 x2 y0 y1 y2 z0 z1 z2
      obtain ⟨y0, y1, y2⟩ := blk_three HY7.out
      go_wp2_with fail
      refine (HHL.out w7 Wa.heap.size _ _ _ _ _ _ HR7.out).mono ?_
      rintro e w8 ⟨rfl, hb8⟩
      have HB8 : Hid (Below Wa.heap.size Wa w8) := HB7.out.trans (hb8.mono HB7.out.size)
      clear hb8 y0 y1 y2
      go_wp2_with fail
      go_ret
      exact ⟨rfl, HBa.out.trans (HB8.out.mono hwa)⟩
  · go_enter Tryz.func3, Tryz.ntmps3
    go_wp2_with fail
    go_ret
    exact ⟨rfl, Below.refl _ _⟩

end Go.Proofs.YtopmkddmllmecaaGreatDoor
