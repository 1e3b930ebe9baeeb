/- The walk of the law FnTerm. -/
import Derived.Test.YtomaknmemhpghaaGreatDoorDrE
import Derived.Test.YtomaknmemhpghaaGreatDoorFnA
import Derived.Test.YtomaknmemhpghaaGreatDoorSpecK
namespace Go.Proofs.YtomaknmemhpghaaGreatDoor
open Go.RowKit Rt Go.Lib

set_option maxHeartbeats 3200000 in
set_option maxRecDepth 100000 in
theorem walkFnTerm (A : Option Addr) (n c : Nat) (w : World) (hn : n ≤ maxLen) (hnc : n ≤ c) (hB : Bytes w A n) :
    Calls Tryz.prog 3 #[.slice A n c] w fun e w' => e = .returned (.bool true) ∧ Below w.heap.size w w' := by
  have HD := Lib.hid (drawTermValid_any l1Bag_any A n c w hn hnc hB)
  unfold maxLen at hn
  clear hB
  by_cases h1 : n ≤ 1048576
  · have d0 : decide ((n : Int) > 1048576) = false := by simp; omega
    go_enter Tryz.func3, Tryz.ntmps3
    go_wp2_with fail
    refine HD.out.mono ?_
    rintro e w1 ⟨a, rfl, ha, hb1⟩
    have HB1 := Lib.hid hb1
    clear hb1
    have HI : Hid (∀ W, Calls Tryz.prog 16 #[.string ⟨a.toArray⟩] W fun e w' => e = .returned (.bool (termOf a).isSome) ∧ Below W.heap.size W w') := fun W => implTermValid ⟨a.toArray⟩ (by simp [ByteArray.size, maxLen]; omega) W
    have HS : Hid (∀ W, Calls Tryz.prog 17 #[.string ⟨a.toArray⟩] W fun e w' => e = .returned (.bool (termOf a).isSome) ∧ Below W.heap.size W w') := fun W => specTermValid l1Bag_any ⟨a.toArray⟩ (by simp [ByteArray.size, maxLen]; omega) W
    have HT : Hid (∀ W, Calls Tryz.prog 18 #[.string ⟨a.toArray⟩] W fun e w' => e = .returned (.tuple #[st (sortRes a).1, .bool (sortRes a).2]) ∧ Below W.heap.size W w') := fun W => implTermSort ⟨a.toArray⟩ (by simp [ByteArray.size, maxLen]; omega) W
    have HZ : Hid (∀ W, Calls Tryz.prog 19 #[.string ⟨a.toArray⟩] W fun e w' => e = .returned (.int .i64 (sizeRes a)) ∧ Below W.heap.size W w') := fun W => implTermSize ⟨a.toArray⟩ (by simp [ByteArray.size, maxLen]; omega) W
    have hq1 : (a == a) = true := by simp
    cases ht : termOf a with
    | none =>
      rw [ht] at HI HS
      clear HT HZ
      go_wp2_with fail
      refine (HI.out w1).mono ?_
      rintro e w2 ⟨rfl, hb2⟩
      have HB2 := Lib.hid (HB1.out.trans (hb2.mono HB1.out.size))
      clear hb2
      go_wp2_with fail
      refine (HS.out w2).mono ?_
      rintro e w3 ⟨rfl, hb3⟩
      have HB3 := Lib.hid (HB2.out.trans (hb3.mono HB2.out.size))
      clear hb3
      go_wp2_with fail
      go_ret
      exact ⟨rfl, HB3.out⟩
    | some t =>
      rw [ht] at HI HS
      rw [sortRes_valid a t ht] at HT
      rw [sizeRes_valid a t ht] at HZ
      rw [st_eq] at HT
      obtain ⟨z1, z2⟩ := termOf_ok a t ht
      have z3 := size_pos t
      have z4 : decide ((size t : Int) ≥ 1) = true := by simp; omega
      have z5 : decide ((size t : Int) ≤ 60) = true := by simp; omega
      generalize size t = N at *
      clear z1 ht
      go_wp2_with fail
      refine (HI.out w1).mono ?_
      rintro e w2 ⟨rfl, hb2⟩
      have HB2 := Lib.hid (HB1.out.trans (hb2.mono HB1.out.size))
      clear hb2
      go_wp2_with fail
      refine (HS.out w2).mono ?_
      rintro e w3 ⟨rfl, hb3⟩
      have HB3 := Lib.hid (HB2.out.trans (hb3.mono HB2.out.size))
      clear hb3
      go_wp2_with fail
      refine (HT.out w3).mono ?_
      rintro e w4 ⟨rfl, hb4⟩
      have HB4 := Lib.hid (HB3.out.trans (hb4.mono HB3.out.size))
      clear hb4
      go_wp2_with fail
      refine (HZ.out w4).mono ?_
      rintro e w5 ⟨rfl, hb5⟩
      have HB5 := Lib.hid (HB4.out.trans (hb5.mono HB4.out.size))
      clear hb5
      go_wp2_with fail
      go_ret
      exact ⟨rfl, HB5.out⟩
  · have d0 : decide ((n : Int) > 1048576) = true := by simp; omega
    go_enter Tryz.func3, Tryz.ntmps3
    go_wp2_with fail
    go_ret
    exact ⟨rfl, Below.refl _ _⟩

end Go.Proofs.YtomaknmemhpghaaGreatDoor
