/- The walk of the law FnSort. -/
import Derived.Test.YtomaknmemhpghaaGreatDoorDrE
import Derived.Test.YtomaknmemhpghaaGreatDoorFnA
import Derived.Test.YtomaknmemhpghaaGreatDoorSpecK
namespace Go.Proofs.YtomaknmemhpghaaGreatDoor
open Go.RowKit Rt Go.Lib

set_option maxHeartbeats 3200000 in
set_option maxRecDepth 100000 in
theorem walkFnSort (A : Option Addr) (n c : Nat) (w : World) (hn : n ≤ maxLen) (hnc : n ≤ c) (hB : Bytes w A n) :
    Calls Tryz.prog 4 #[.slice A n c] w fun e w' => e = .returned (.bool true) ∧ Below w.heap.size w w' := by
  have HD := Lib.hid (drawTermSort_any l1Bag_any A n c w hn hnc hB)
  unfold maxLen at hn
  clear hB
  by_cases h1 : n ≤ 1048576
  · have d0 : decide ((n : Int) > 1048576) = false := by simp; omega
    go_enter Tryz.func4, Tryz.ntmps4
    go_wp2_with fail
    refine HD.out.mono ?_
    rintro e w1 ⟨a, rfl, ha, hb1⟩
    have HB1 := Lib.hid hb1
    clear hb1
    have HI : Hid (∀ W, Calls Tryz.prog 18 #[.string ⟨a.toArray⟩] W fun e w' => e = .returned (.tuple #[st (sortRes a).1, .bool (sortRes a).2]) ∧ Below W.heap.size W w') := fun W => implTermSort ⟨a.toArray⟩ (by simp [ByteArray.size, maxLen]; omega) W
    have HS : Hid (∀ W, Calls Tryz.prog 21 #[.string ⟨a.toArray⟩] W fun e w' => e = .returned (.tuple #[st (sortRes a).1, .bool (sortRes a).2]) ∧ Below W.heap.size W w') := fun W => specTermSort l1Bag_any ⟨a.toArray⟩ (by simp [ByteArray.size, maxLen]; omega) W
    obtain ⟨r, hr⟩ : ∃ r, r = sortRes a := ⟨_, rfl⟩
    rw [← hr] at HI HS
    obtain ⟨o, b⟩ := r
    have HI1 : Hid (∀ W, Calls Tryz.prog 18 #[.string ⟨a.toArray⟩] W fun e w' => e = .returned (.tuple #[.string ⟨o.toArray⟩, .bool b]) ∧ Below W.heap.size W w') := HI.out
    have HS1 : Hid (∀ W, Calls Tryz.prog 21 #[.string ⟨a.toArray⟩] W fun e w' => e = .returned (.tuple #[.string ⟨o.toArray⟩, .bool b]) ∧ Below W.heap.size W w') := HS.out
    clear HI HS
    have hq1 : (o == o) = true := by simp
    have hq2 : (o != o) = false := by simp
    cases b
    · clear hr
      go_wp2_with fail
      refine (HI1.out w1).mono ?_
      rintro e w2 ⟨rfl, hb2⟩
      have HB2 := Lib.hid (HB1.out.trans (hb2.mono HB1.out.size))
      clear hb2
      go_wp2_with fail
      refine (HS1.out w2).mono ?_
      rintro e w3 ⟨rfl, hb3⟩
      have HB3 := Lib.hid (HB2.out.trans (hb3.mono HB2.out.size))
      clear hb3
      go_wp2_with fail
      go_ret
      exact ⟨rfl, HB3.out⟩
    · obtain ⟨t, ht, hl⟩ := sortRes_again a o hr.symm
      have hol : o.length ≤ 4000 := by omega
      have HT : Hid (∀ W, Calls Tryz.prog 18 #[.string ⟨o.toArray⟩] W fun e w' => e = .returned (.tuple #[st (sortRes o).1, .bool (sortRes o).2]) ∧ Below W.heap.size W w') := fun W => implTermSort ⟨o.toArray⟩ (by simp [ByteArray.size, maxLen]; omega) W
      have HV : Hid (∀ W, Calls Tryz.prog 16 #[.string ⟨o.toArray⟩] W fun e w' => e = .returned (.bool (termOf o).isSome) ∧ Below W.heap.size W w') := fun W => implTermValid ⟨o.toArray⟩ (by simp [ByteArray.size, maxLen]; omega) W
      rw [sortRes_valid o t ht, st_eq] at HT
      rw [ht] at HV
      clear hr ht
      go_wp2_with fail
      refine (HI1.out w1).mono ?_
      rintro e w2 ⟨rfl, hb2⟩
      have HB2 := Lib.hid (HB1.out.trans (hb2.mono HB1.out.size))
      clear hb2
      go_wp2_with fail
      refine (HS1.out w2).mono ?_
      rintro e w3 ⟨rfl, hb3⟩
      have HB3 := Lib.hid (HB2.out.trans (hb3.mono HB2.out.size))
      clear hb3
      go_wp2_with fail
      refine (HT.out w3).mono ?_
      rintro e w4 ⟨rfl, hb4⟩
      have HB4 := Lib.hid (HB3.out.trans (hb4.mono HB3.out.size))
      clear hb4
      go_wp2_with fail
      refine (HV.out w4).mono ?_
      rintro e w5 ⟨rfl, hb5⟩
      have HB5 := Lib.hid (HB4.out.trans (hb5.mono HB4.out.size))
      clear hb5
      go_wp2_with fail
      go_ret
      exact ⟨rfl, HB5.out⟩
  · have d0 : decide ((n : Int) > 1048576) = true := by simp; omega
    go_enter Tryz.func4, Tryz.ntmps4
    go_wp2_with fail
    go_ret
    exact ⟨rfl, Below.refl _ _⟩

end Go.Proofs.YtomaknmemhpghaaGreatDoor
