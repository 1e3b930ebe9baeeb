/- The walk of the law FnRename. -/
import Derived.Test.YthlenhnioocbgaaGreatDoorDrE
import Derived.Test.YthlenhnioocbgaaGreatDoorFnA
import Derived.Test.YthlenhnioocbgaaGreatDoorDgD
import Derived.Test.YthlenhnioocbgaaGreatDoorSpecK
namespace Go.Proofs.YthlenhnioocbgaaGreatDoor
open Go.RowKit Rt Go.Lib

set_option maxHeartbeats 3200000 in
set_option maxRecDepth 100000 in
theorem walkFnRename (A : Option Addr) (n c : Nat) (w : World) (hn : n ≤ maxLen) (hnc : n ≤ c) (hB : Bytes w A n) :
    Calls Tryz.prog 8 #[.slice A n c] w fun e w' => e = .returned (.bool true) ∧ Below w.heap.size w w' := by
  have HD := Lib.hid (drawTermRename_any l1Bag_any A n c w hn hnc hB)
  unfold maxLen at hn
  clear hB
  by_cases h1 : n ≤ 1048576
  · have d0 : decide ((n : Int) > 1048576) = false := by simp; omega
    go_enter Tryz.func8, Tryz.ntmps8
    go_wp2_with fail
    refine HD.out.mono ?_
    rintro e w1 ⟨a, b, c', rfl, ha, hb, hc', hb1⟩
    have HB1 := Lib.hid hb1
    clear hb1
    have HI : Hid (∀ W, Calls Tryz.prog 33 #[.string ⟨a.toArray⟩, .string ⟨b.toArray⟩, .string ⟨c'.toArray⟩] W fun e w' => e = .returned (.tuple #[st (renRes a b c').1, .bool (renRes a b c').2]) ∧ Below W.heap.size W w') := fun W => implTermRename ⟨a.toArray⟩ b c' (by simp [ByteArray.size, maxLen]; omega) (by unfold maxLen; omega) (by unfold maxLen; omega) W
    have HS : Hid (∀ W, Calls Tryz.prog 34 #[.string ⟨a.toArray⟩, .string ⟨b.toArray⟩, .string ⟨c'.toArray⟩] W fun e w' => e = .returned (.tuple #[st (renRes a b c').1, .bool (renRes a b c').2]) ∧ Below W.heap.size W w') := fun W => specTermRename l1Bag_any ⟨a.toArray⟩ b c' (by simp [ByteArray.size, maxLen]; omega) (by unfold maxLen; omega) (by unfold maxLen; omega) W
    have hos := renRes_size a b c'
    obtain ⟨r, hr⟩ : ∃ r, r = renRes a b c' := ⟨_, rfl⟩
    rw [← hr] at HI HS hos
    obtain ⟨o, v⟩ := r
    have hol : o.length ≤ 4000 := hos
    have HI1 : Hid (∀ W, Calls Tryz.prog 33 #[.string ⟨a.toArray⟩, .string ⟨b.toArray⟩, .string ⟨c'.toArray⟩] W fun e w' => e = .returned (.tuple #[.string ⟨o.toArray⟩, .bool v]) ∧ Below W.heap.size W w') := HI.out
    have HS1 : Hid (∀ W, Calls Tryz.prog 34 #[.string ⟨a.toArray⟩, .string ⟨b.toArray⟩, .string ⟨c'.toArray⟩] W fun e w' => e = .returned (.tuple #[.string ⟨o.toArray⟩, .bool v]) ∧ Below W.heap.size W w') := HS.out
    clear HI HS hos
    have hq1 : (o == o) = true := by simp
    have hq2 : (o != o) = false := by simp
    cases v
    · clear hr
      go_wp2_with fail
      refine (HI1.out w1).mono ?_
      rintro e w2 ⟨rfl, hb2⟩
      have HB2 := Lib.hid (HB1.out.trans (hb2.mono HB1.out.size))
      clear hb2
      go_wp2_with fail
      refine (HS1.out w2).mono ?_
      rintro e w3 ⟨rfl, hb3⟩
      have HB3 := Lib.hid (HB2.out.trans (hb3.mono HB2.out.size))
      clear hb3
      go_wp2_with fail
      go_ret
      exact ⟨rfl, HB3.out⟩
    · obtain ⟨t, -, -, -, e1, e2, e3⟩ := ren_then a b c' o hr.symm
      have HD1 : Hid (∀ W, Calls Tryz.prog 20 #[.string ⟨a.toArray⟩, .string ⟨b.toArray⟩] W fun e w' => e = .returned (.int .i64 (degRes a b)) ∧ Below W.heap.size W w') := fun W => implTermDegree ⟨a.toArray⟩ b (by simp [ByteArray.size, maxLen]; omega) (by unfold maxLen; omega) W
      have HD2 : Hid (∀ W, Calls Tryz.prog 20 #[.string ⟨a.toArray⟩, .string ⟨c'.toArray⟩] W fun e w' => e = .returned (.int .i64 (degRes a c')) ∧ Below W.heap.size W w') := fun W => implTermDegree ⟨a.toArray⟩ c' (by simp [ByteArray.size, maxLen]; omega) (by unfold maxLen; omega) W
      have HD3 : Hid (∀ W, Calls Tryz.prog 20 #[.string ⟨o.toArray⟩, .string ⟨c'.toArray⟩] W fun e w' => e = .returned (.int .i64 (degRes o c')) ∧ Below W.heap.size W w') := fun W => implTermDegree ⟨o.toArray⟩ c' (by simp [ByteArray.size, maxLen]; omega) (by unfold maxLen; omega) W
      have HD4 : Hid (∀ W, Calls Tryz.prog 20 #[.string ⟨o.toArray⟩, .string ⟨b.toArray⟩] W fun e w' => e = .returned (.int .i64 (degRes o b)) ∧ Below W.heap.size W w') := fun W => implTermDegree ⟨o.toArray⟩ b (by simp [ByteArray.size, maxLen]; omega) (by unfold maxLen; omega) W
      have HZ1 : Hid (∀ W, Calls Tryz.prog 25 #[.string ⟨o.toArray⟩] W fun e w' => e = .returned (.int .i64 (sizeRes o)) ∧ Below W.heap.size W w') := fun W => implTermSize ⟨o.toArray⟩ (by simp [ByteArray.size, maxLen]; omega) W
      have HZ2 : Hid (∀ W, Calls Tryz.prog 25 #[.string ⟨a.toArray⟩] W fun e w' => e = .returned (.int .i64 (sizeRes a)) ∧ Below W.heap.size W w') := fun W => implTermSize ⟨a.toArray⟩ (by simp [ByteArray.size, maxLen]; omega) W
      rw [e1] at HZ1
      have hz1 : (sizeRes a == sizeRes a) = true := by simp
      have b1 := degRes_le a b
      have b2 := degRes_le a c'
      clear hr e1
      by_cases hbc : b = c'
      · subst hbc
        have hq3 : (b == b) = true := by simp
        have hq4 : (b != b) = false := by simp
        rw [if_pos rfl, Int.add_zero] at e2
        rw [e2] at HD3
        have hz2 : (degRes a b == degRes a b) = true := by simp
        generalize degRes a b = d at *
        generalize sizeRes a = z at *
        clear e2 e3
        go_wp2_with fail
        refine (HI1.out w1).mono ?_
        rintro e w2 ⟨rfl, hb2⟩
        have HB2 := Lib.hid (HB1.out.trans (hb2.mono HB1.out.size))
        clear hb2
        go_wp2_with fail
        refine (HS1.out w2).mono ?_
        rintro e w3 ⟨rfl, hb3⟩
        have HB3 := Lib.hid (HB2.out.trans (hb3.mono HB2.out.size))
        clear hb3
        go_wp2_with fail
        refine (HD1.out w3).mono ?_
        rintro e w4 ⟨rfl, hb4⟩
        have HB4 := Lib.hid (HB3.out.trans (hb4.mono HB3.out.size))
        clear hb4
        go_wp2_with fail
        refine (HZ1.out w4).mono ?_
        rintro e w5 ⟨rfl, hb5⟩
        have HB5 := Lib.hid (HB4.out.trans (hb5.mono HB4.out.size))
        clear hb5
        go_wp2_with fail
        refine (HZ2.out w5).mono ?_
        rintro e w6 ⟨rfl, hb6⟩
        have HB6 := Lib.hid (HB5.out.trans (hb6.mono HB5.out.size))
        clear hb6
        go_wp2_with fail
        refine (HD3.out w6).mono ?_
        rintro e w7 ⟨rfl, hb7⟩
        have HB7 := Lib.hid (HB6.out.trans (hb7.mono HB6.out.size))
        clear hb7
        go_wp2_with fail
        go_ret
        exact ⟨rfl, HB7.out⟩
      · have hq3 : (b == c') = false := by simpa using hbc
        have hq4 : (b != c') = true := by simpa using hbc
        rw [if_neg hbc] at e2
        rw [e3 hbc] at HD4
        rw [e2] at HD3
        have hz2 : (degRes a b + degRes a c' == degRes a b + degRes a c') = true := by simp
        generalize degRes a b = d at *
        generalize degRes a c' = d' at *
        generalize sizeRes a = z at *
        clear e2 e3 hbc
        go_wp2_with fail
        refine (HI1.out w1).mono ?_
        rintro e w2 ⟨rfl, hb2⟩
        have HB2 := Lib.hid (HB1.out.trans (hb2.mono HB1.out.size))
        clear hb2
        go_wp2_with fail
        refine (HS1.out w2).mono ?_
        rintro e w3 ⟨rfl, hb3⟩
        have HB3 := Lib.hid (HB2.out.trans (hb3.mono HB2.out.size))
        clear hb3
        go_wp2_with fail
        refine (HD1.out w3).mono ?_
        rintro e w4 ⟨rfl, hb4⟩
        have HB4 := Lib.hid (HB3.out.trans (hb4.mono HB3.out.size))
        clear hb4
        go_wp2_with fail
        refine (HD2.out w4).mono ?_
        rintro e w5 ⟨rfl, hb5⟩
        have HB5 := Lib.hid (HB4.out.trans (hb5.mono HB4.out.size))
        clear hb5
        go_wp2_with fail
        refine (HZ1.out w5).mono ?_
        rintro e w6 ⟨rfl, hb6⟩
        have HB6 := Lib.hid (HB5.out.trans (hb6.mono HB5.out.size))
        clear hb6
        go_wp2_with fail
        refine (HZ2.out w6).mono ?_
        rintro e w7 ⟨rfl, hb7⟩
        have HB7 := Lib.hid (HB6.out.trans (hb7.mono HB6.out.size))
        clear hb7
        go_wp2_with fail
        refine (HD3.out w7).mono ?_
        rintro e w8 ⟨rfl, hb8⟩
        have HB8 := Lib.hid (HB7.out.trans (hb8.mono HB7.out.size))
        clear hb8
        go_wp2_with fail
        refine (HD4.out w8).mono ?_
        rintro e w9 ⟨rfl, hb9⟩
        have HB9 := Lib.hid (HB8.out.trans (hb9.mono HB8.out.size))
        clear hb9
        go_wp2_with fail
        go_ret
        exact ⟨rfl, HB9.out⟩
  · have d0 : decide ((n : Int) > 1048576) = true := by simp; omega
    go_enter Tryz.func8, Tryz.ntmps8
    go_wp2_with fail
    go_ret
    exact ⟨rfl, Below.refl _ _⟩

end Go.Proofs.YthlenhnioocbgaaGreatDoor
