/- The walk of the law of TermOpen. -/
import Derived.Test.YtomaknmemhpghaaGreatDoorWalkD
import Derived.Test.YtomaknmemhpghaaGreatDoorOpB
namespace Go.Proofs.YtomaknmemhpghaaGreatDoor
open Go.RowKit Rt Go.Lib

set_option maxHeartbeats 1600000 in
theorem walkTermOpen (s sa : ByteArray) (w : World) (hs : s.size ≤ maxLen) (ha : sa.size ≤ maxLen) :
    Calls Tryz.prog 14 #[.string s, .string sa] w fun e w' => e = .returned (.bool true) ∧ Below w.heap.size w w' := by
  obtain ⟨a, rfl⟩ := bytes_eq sa
  have ha' : a.length ≤ maxLen := by simpa [ByteArray.size] using ha
  have HS : Hid (∀ W, Calls Tryz.prog 48 #[.string s, .string ⟨a.toArray⟩] W fun e w' => e = .returned (.tuple #[st (openRes s.data.toList a).1, .bool (openRes s.data.toList a).2]) ∧ Below W.heap.size W w') := fun W => specTermOpen l1Bag_any s a hs ha' W
  have HI : Hid (∀ W, Calls Tryz.prog 28 #[.string s, .string ⟨a.toArray⟩] W fun e w' => e = .returned (.tuple #[st (openRes s.data.toList a).1, .bool (openRes s.data.toList a).2]) ∧ Below W.heap.size W w') := fun W => implTermOpen s a hs ha' W
  rw [st_eq] at HS HI
  generalize (⟨(openRes s.data.toList a).1.toArray⟩ : ByteArray) = u at HS HI
  generalize (openRes s.data.toList a).2 = bo at HS HI
  clear ha'
  generalize (⟨a.toArray⟩ : ByteArray) = sa at *
  unfold maxLen at hs ha
  have hq1 : (u.toList == u.toList) = true := by simp
  have hq2 : (u.toList != u.toList) = false := by simp
  by_cases h1 : s.size ≤ 1048576
  · by_cases h2 : sa.size ≤ 1048576
    · cases bo
      all_goals
        go_enter Tryz.func14, Tryz.ntmps14
        go_wp2_with (first
          | (go_at_call 48; refine (HS.out _).mono ?_; rintro e w1 ⟨rfl, hb⟩; have HB1 := Lib.hid hb; clear hb)
          | (go_at_call 28; refine (HI.out _).mono ?_; rintro e w2 ⟨rfl, hb⟩; have HB2 := Lib.hid hb; clear hb))
        go_ret
        exact ⟨rfl, HB1.out.trans (HB2.out.mono HB1.out.size)⟩
    · go_enter Tryz.func14, Tryz.ntmps14
      go_wp2_with fail
      go_ret
      exact ⟨rfl, Below.refl _ _⟩
  · go_enter Tryz.func14, Tryz.ntmps14
    go_wp2_with fail
    go_ret
    exact ⟨rfl, Below.refl _ _⟩

end Go.Proofs.YtomaknmemhpghaaGreatDoor
