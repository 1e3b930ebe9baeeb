/- The walk of the law FnDegree. -/
import Derived.Test.YthlenhnioocbgaaGreatDoorDrE
import Derived.Test.YthlenhnioocbgaaGreatDoorFnA
import Derived.Test.YthlenhnioocbgaaGreatDoorHtA
import Derived.Test.YthlenhnioocbgaaGreatDoorNmC
import Derived.Test.YthlenhnioocbgaaGreatDoorDgD
import Derived.Test.YthlenhnioocbgaaGreatDoorSpecK
namespace Go.Proofs.YthlenhnioocbgaaGreatDoor
open Go.RowKit Rt Go.Lib

set_option maxHeartbeats 3200000 in
set_option maxRecDepth 100000 in
theorem walkFnDegree (A : Option Addr) (n c : Nat) (w : World) (hn : n ≤ maxLen) (hnc : n ≤ c) (hB : Bytes w A n) :
    Calls Tryz.prog 5 #[.slice A n c] w fun e w' => e = .returned (.bool true) ∧ Below w.heap.size w w' := by
  have HD := Lib.hid (drawTermDegree_any l1Bag_any A n c w hn hnc hB)
  unfold maxLen at hn
  clear hB
  by_cases h1 : n ≤ 1048576
  · have d0 : decide ((n : Int) > 1048576) = false := by simp; omega
    go_enter Tryz.func5, Tryz.ntmps5
    go_wp2_with fail
    refine HD.out.mono ?_
    rintro e w1 ⟨a, b, rfl, ha, hb, hb1⟩
    have HB1 := Lib.hid hb1
    clear hb1
    have HI : Hid (∀ W, Calls Tryz.prog 20 #[.string ⟨a.toArray⟩, .string ⟨b.toArray⟩] W fun e w' => e = .returned (.int .i64 (degRes a b)) ∧ Below W.heap.size W w') := fun W => implTermDegree ⟨a.toArray⟩ b (by simp [ByteArray.size, maxLen]; omega) (by unfold maxLen; omega) W
    have HS : Hid (∀ W, Calls Tryz.prog 23 #[.string ⟨a.toArray⟩, .string ⟨b.toArray⟩] W fun e w' => e = .returned (.int .i64 (degRes a b)) ∧ Below W.heap.size W w') := fun W => specTermDegree l1Bag_any ⟨a.toArray⟩ b (by simp [ByteArray.size, maxLen]; omega) (by unfold maxLen; omega) W
    by_cases hneg : degRes a b < 0
    · have d1 : decide (degRes a b < 0) = true := by simpa using hneg
      have hq1 : (degRes a b == degRes a b) = true := by simp
      have hq2 : (degRes a b != degRes a b) = false := by simp
      generalize degRes a b = d at *
      go_wp2_with fail
      refine (HI.out w1).mono ?_
      rintro e w2 ⟨rfl, hb2⟩
      have HB2 := Lib.hid (HB1.out.trans (hb2.mono HB1.out.size))
      clear hb2
      go_wp2_with fail
      refine (HS.out w2).mono ?_
      rintro e w3 ⟨rfl, hb3⟩
      have HB3 := Lib.hid (HB2.out.trans (hb3.mono HB2.out.size))
      clear hb3
      go_wp2_with fail
      go_ret
      exact ⟨rfl, HB3.out⟩
    · obtain ⟨t, ht, hnb⟩ := degRes_pos a b (by omega)
      obtain ⟨o1, o2⟩ := termOf_ok a t ht
      have HN1 : Hid (∀ W, Calls Tryz.prog 17 #[.string ⟨a.toArray⟩] W (KidsPost W (namesRes a))) := fun W => implTermNames ⟨a.toArray⟩ (by simp [ByteArray.size, maxLen]; omega) W
      rw [namesRes_of a t ht] at HN1
      have HN1' : Hid (∀ W, Calls Tryz.prog 17 #[.string ⟨a.toArray⟩] W fun e w' => Below W.heap.size W w' ∧ ∃ A c, e = .returned (.tuple #[.slice A (bys (nmL t)).length c, .bool true]) ∧ w'.ownsRow W.heap.size 9 1 (.slice A (bys (nmL t)).length c) (bys (nmL t)).length (strv (bys (nmL t)))) := HN1.out
      rw [bys_len] at HN1'
      have HZ : Hid (∀ W, Calls Tryz.prog 25 #[.string ⟨a.toArray⟩] W fun e w' => e = .returned (.int .i64 (sizeRes a)) ∧ Below W.heap.size W w') := fun W => implTermSize ⟨a.toArray⟩ (by simp [ByteArray.size, maxLen]; omega) W
      have HB : Hid (∀ W, Calls Tryz.prog 24 #[.string ⟨a.toArray⟩, .string ⟨b.toArray⟩] W fun e w' => e = .returned (.tuple #[st (bindRes a b).1, .bool (bindRes a b).2]) ∧ Below W.heap.size W w') := fun W => implTermBind ⟨a.toArray⟩ b (by simp [ByteArray.size, maxLen]; omega) (by unfold maxLen; omega) W
      rw [sizeRes_valid a t ht] at HZ
      have hdg := degRes_of a b t ht hnb
      have hdl : (names t).count b ≤ size t := Nat.le_trans List.count_le_length (names_len t)
      have hbs := bindRes_size a b
      obtain ⟨rb, hrb⟩ : ∃ rb, rb = bindRes a b := ⟨_, rfl⟩
      rw [← hrb] at HB hbs
      obtain ⟨o, q⟩ := rb
      have hbs' : o.length ≤ 4000 := hbs
      have HB' : Hid (∀ W, Calls Tryz.prog 24 #[.string ⟨a.toArray⟩, .string ⟨b.toArray⟩] W fun e w' => e = .returned (.tuple #[.string ⟨o.toArray⟩, .bool q]) ∧ Below W.heap.size W w') := HB.out
      have HDO : Hid (∀ W, q = true → Calls Tryz.prog 20 #[.string ⟨o.toArray⟩, .string ⟨b.toArray⟩] W fun e w' => e = .returned (.int .i64 0) ∧ Below W.heap.size W w') := fun W hq => by
        have h := implTermDegree ⟨o.toArray⟩ b (by simp [ByteArray.size, maxLen]; omega) (by unfold maxLen; omega) W
        have e0 : degRes (⟨o.toArray⟩ : ByteArray).data.toList b = 0 := bind_gone a b o (by rw [← hrb, hq])
        rw [e0] at h
        exact h
      obtain ⟨l, hll⟩ : ∃ l, l = nmL t := ⟨_, rfl⟩
      have hl60 : l.length ≤ 60 := by have := nmL_len t; rw [hll]; omega
      obtain ⟨v, hv⟩ : ∃ v, v = decide (b ∈ l) := ⟨_, rfl⟩
      have hd1 : decide (((names t).count b : Int) > 0) = v := by
        rw [hv, hll, decide_eq_decide, nmL_mem 0 t o1, ← List.count_pos_iff]
        omega
      have HHT : Hid (∀ W A c, Texts W A (bys l) → Calls Tryz.prog 21 #[.slice A l.length c, .string ⟨b.toArray⟩] W fun e w' => e = .returned (.bool v) ∧ Below W.heap.size W w') := fun W A c h => by
        rw [hv]; exact hasText_any A l.length c l b W rfl (by omega) h
      rw [← hll] at HN1'
      rw [hdg] at HI HS hneg
      have hdl' : (((names t).count b : Nat) : Int) ≤ ((size t : Nat) : Int) := by omega
      generalize (((names t).count b : Nat) : Int) = d at *
      generalize ((size t : Nat) : Int) = N at *
      have d1 : decide (d < 0) = false := by rw [decide_eq_false_iff_not]; omega
      have d2 : decide (d ≤ N) = true := by simp; omega
      have hq1 : (d == d) = true := by simp
      have hq2 : (d != d) = false := by simp
      have hvv : (v == v) = true := by simp
      clear hv hll hrb hdg ht o1 HB hbs HN1 hvv hdl
      cases v
      all_goals
        go_wp2_with fail
        refine (HI.out w1).mono ?_
        rintro e w2 ⟨rfl, hb2⟩
        have HB2 := Lib.hid (HB1.out.trans (hb2.mono HB1.out.size))
        clear hb2
        go_wp2_with fail
        refine (HS.out w2).mono ?_
        rintro e w3 ⟨rfl, hb3⟩
        have HB3 := Lib.hid (HB2.out.trans (hb3.mono HB2.out.size))
        clear hb3
        go_wp2_with fail
        refine (HN1'.out w3).mono ?_
        rintro e w4 ⟨hb4, A4, c4, rfl, hown4⟩
        have HB4 := Lib.hid (HB3.out.trans (hb4.mono HB3.out.size))
        have HT4 : Hid (Texts w4 A4 (bys l)) := texts_bys hown4
        clear hb4 hown4
        go_wp2_with fail
        refine (HB'.out w4).mono ?_
        rintro e w5 ⟨rfl, hb5⟩
        have HB5 := Lib.hid (HB4.out.trans (hb5.mono HB4.out.size))
        have HT5 := Lib.hid (HT4.out.below hb5)
        clear hb5
        go_wp2_with fail
        refine (HZ.out w5).mono ?_
        rintro e w6 ⟨rfl, hb6⟩
        have HB6 := Lib.hid (HB5.out.trans (hb6.mono HB5.out.size))
        have HT6 := Lib.hid (HT5.out.below hb6)
        clear hb6
        go_wp2_with fail
        refine (HHT.out w6 A4 c4 HT6.out).mono ?_
        rintro e w7 ⟨rfl, hb7⟩
        have HB7 := Lib.hid (HB6.out.trans (hb7.mono HB6.out.size))
        clear hb7
        cases q
        · go_wp2_with fail
          go_ret
          exact ⟨rfl, HB7.out⟩
        · go_wp2_with fail
          refine (HDO.out w7 (by simp)).mono ?_
          rintro e w8 ⟨rfl, hb8⟩
          have HB8 := Lib.hid (HB7.out.trans (hb8.mono HB7.out.size))
          clear hb8
          go_wp2_with fail
          go_ret
          exact ⟨rfl, HB8.out⟩
  · have d0 : decide ((n : Int) > 1048576) = true := by simp; omega
    go_enter Tryz.func5, Tryz.ntmps5
    go_wp2_with fail
    go_ret
    exact ⟨rfl, Below.refl _ _⟩

end Go.Proofs.YthlenhnioocbgaaGreatDoor
