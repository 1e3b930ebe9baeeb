/- The walk of the law FnBind. -/
import Derived.Test.YtomaknmemhpghaaGreatDoorDrE
import Derived.Test.YtomaknmemhpghaaGreatDoorFnA
import Derived.Test.YtomaknmemhpghaaGreatDoorSpecK
import Derived.Test.YtomaknmemhpghaaGreatDoorOpB
namespace Go.Proofs.YtomaknmemhpghaaGreatDoor
open Go.RowKit Rt Go.Lib

set_option maxHeartbeats 3200000 in
set_option maxRecDepth 100000 in
theorem walkFnBind (A : Option Addr) (n c : Nat) (w : World) (hn : n ≤ maxLen) (hnc : n ≤ c) (hB : Bytes w A n) :
    Calls Tryz.prog 6 #[.slice A n c] w fun e w' => e = .returned (.bool true) ∧ Below w.heap.size w w' := by
  have HD := Lib.hid (drawTermBind_any l1Bag_any A n c w hn hnc hB)
  unfold maxLen at hn
  clear hB
  by_cases h1 : n ≤ 1048576
  · have d0 : decide ((n : Int) > 1048576) = false := by simp; omega
    go_enter Tryz.func6, Tryz.ntmps6
    go_wp2_with fail
    refine HD.out.mono ?_
    rintro e w1 ⟨a, b, rfl, ha, hb, hb1⟩
    have HB1 := Lib.hid hb1
    clear hb1
    have HI : Hid (∀ W, Calls Tryz.prog 26 #[.string ⟨a.toArray⟩, .string ⟨b.toArray⟩] W fun e w' => e = .returned (.tuple #[st (bindRes a b).1, .bool (bindRes a b).2]) ∧ Below W.heap.size W w') := fun W => implTermBind ⟨a.toArray⟩ b (by simp [ByteArray.size, maxLen]; omega) (by unfold maxLen; omega) W
    have HS : Hid (∀ W, Calls Tryz.prog 27 #[.string ⟨a.toArray⟩, .string ⟨b.toArray⟩] W fun e w' => e = .returned (.tuple #[st (bindRes a b).1, .bool (bindRes a b).2]) ∧ Below W.heap.size W w') := fun W => specTermBind l1Bag_any ⟨a.toArray⟩ b (by simp [ByteArray.size, maxLen]; omega) (by unfold maxLen; omega) W
    obtain ⟨r, hr⟩ : ∃ r, r = bindRes a b := ⟨_, rfl⟩
    rw [← hr] at HI HS
    obtain ⟨o, v⟩ := r
    have HI1 : Hid (∀ W, Calls Tryz.prog 26 #[.string ⟨a.toArray⟩, .string ⟨b.toArray⟩] W fun e w' => e = .returned (.tuple #[.string ⟨o.toArray⟩, .bool v]) ∧ Below W.heap.size W w') := HI.out
    have HS1 : Hid (∀ W, Calls Tryz.prog 27 #[.string ⟨a.toArray⟩, .string ⟨b.toArray⟩] W fun e w' => e = .returned (.tuple #[.string ⟨o.toArray⟩, .bool v]) ∧ Below W.heap.size W w') := HS.out
    clear HI HS
    have hq1 : (o == o) = true := by simp
    have hq2 : (o != o) = false := by simp
    have hq3 : (a == a) = true := by simp
    cases v
    · clear hr
      go_wp2_with fail
      refine (HI1.out w1).mono ?_
      rintro e w2 ⟨rfl, hb2⟩
      have HB2 := Lib.hid (HB1.out.trans (hb2.mono HB1.out.size))
      clear hb2
      go_wp2_with fail
      refine (HS1.out w2).mono ?_
      rintro e w3 ⟨rfl, hb3⟩
      have HB3 := Lib.hid (HB2.out.trans (hb3.mono HB2.out.size))
      clear hb3
      go_wp2_with fail
      go_ret
      exact ⟨rfl, HB3.out⟩
    · obtain ⟨ht, hz⟩ := bind_then a b o hr.symm
      have hol : o.length ≤ 4000 := by have h := bindRes_size a b; rw [← hr] at h; exact h
      have HT : Hid (∀ W, Calls Tryz.prog 28 #[.string ⟨o.toArray⟩, .string ⟨b.toArray⟩] W fun e w' => e = .returned (.tuple #[st (openRes o b).1, .bool (openRes o b).2]) ∧ Below W.heap.size W w') := fun W => implTermOpen ⟨o.toArray⟩ b (by simp [ByteArray.size, maxLen]; omega) (by unfold maxLen; omega) W
      have HZ1 : Hid (∀ W, Calls Tryz.prog 19 #[.string ⟨o.toArray⟩] W fun e w' => e = .returned (.int .i64 (sizeRes o)) ∧ Below W.heap.size W w') := fun W => implTermSize ⟨o.toArray⟩ (by simp [ByteArray.size, maxLen]; omega) W
      have HZ2 : Hid (∀ W, Calls Tryz.prog 19 #[.string ⟨a.toArray⟩] W fun e w' => e = .returned (.int .i64 (sizeRes a)) ∧ Below W.heap.size W w') := fun W => implTermSize ⟨a.toArray⟩ (by simp [ByteArray.size, maxLen]; omega) W
      rw [ht, st_eq] at HT
      have hzl := sizeRes_le a
      generalize sizeRes a = z at *
      generalize sizeRes o = y at *
      have hzy : (y == z + 1) = true := by simp; omega
      clear hr ht
      go_wp2_with fail
      refine (HI1.out w1).mono ?_
      rintro e w2 ⟨rfl, hb2⟩
      have HB2 := Lib.hid (HB1.out.trans (hb2.mono HB1.out.size))
      clear hb2
      go_wp2_with fail
      refine (HS1.out w2).mono ?_
      rintro e w3 ⟨rfl, hb3⟩
      have HB3 := Lib.hid (HB2.out.trans (hb3.mono HB2.out.size))
      clear hb3
      go_wp2_with fail
      refine (HT.out w3).mono ?_
      rintro e w4 ⟨rfl, hb4⟩
      have HB4 := Lib.hid (HB3.out.trans (hb4.mono HB3.out.size))
      clear hb4
      go_wp2_with fail
      refine (HZ1.out w4).mono ?_
      rintro e w5 ⟨rfl, hb5⟩
      have HB5 := Lib.hid (HB4.out.trans (hb5.mono HB4.out.size))
      clear hb5
      go_wp2_with fail
      refine (HZ2.out w5).mono ?_
      rintro e w6 ⟨rfl, hb6⟩
      have HB6 := Lib.hid (HB5.out.trans (hb6.mono HB5.out.size))
      clear hb6
      go_wp2_with fail
      go_ret
      exact ⟨rfl, HB6.out⟩
  · have d0 : decide ((n : Int) > 1048576) = true := by simp; omega
    go_enter Tryz.func6, Tryz.ntmps6
    go_wp2_with fail
    go_ret
    exact ⟨rfl, Below.refl _ _⟩

end Go.Proofs.YtomaknmemhpghaaGreatDoor
