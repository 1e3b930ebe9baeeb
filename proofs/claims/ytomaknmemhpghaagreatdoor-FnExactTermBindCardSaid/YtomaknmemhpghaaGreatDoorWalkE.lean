/- The walk of the law of TermBind. -/
import Derived.Test.YtomaknmemhpghaaGreatDoorWalkD
namespace Go.Proofs.YtomaknmemhpghaaGreatDoor
open Go.RowKit Rt Go.Lib

set_option maxHeartbeats 1600000 in
theorem walkTermBind (s sa : ByteArray) (w : World) (hs : s.size ≤ maxLen) (ha : sa.size ≤ maxLen) :
    Calls Tryz.prog 13 #[.string s, .string sa] w fun e w' => e = .returned (.bool true) ∧ Below w.heap.size w w' := by
  obtain ⟨a, rfl⟩ := bytes_eq sa
  have ha' : a.length ≤ maxLen := by simpa [ByteArray.size] using ha
  have HS : Hid (∀ W, Calls Tryz.prog 27 #[.string s, .string ⟨a.toArray⟩] W fun e w' => e = .returned (.tuple #[st (bindRes s.data.toList a).1, .bool (bindRes s.data.toList a).2]) ∧ Below W.heap.size W w') := fun W => specTermBind l1Bag_any s a hs ha' W
  have HI : Hid (∀ W, Calls Tryz.prog 26 #[.string s, .string ⟨a.toArray⟩] W fun e w' => e = .returned (.tuple #[st (bindRes s.data.toList a).1, .bool (bindRes s.data.toList a).2]) ∧ Below W.heap.size W w') := fun W => implTermBind s a hs ha' W
  rw [st_eq] at HS HI
  generalize (⟨(bindRes s.data.toList a).1.toArray⟩ : ByteArray) = u at HS HI
  generalize (bindRes s.data.toList a).2 = bo at HS HI
  clear ha'
  generalize (⟨a.toArray⟩ : ByteArray) = sa at *
  unfold maxLen at hs ha
  have hq1 : (u.toList == u.toList) = true := by simp
  have hq2 : (u.toList != u.toList) = false := by simp
  by_cases h1 : s.size ≤ 1048576
  · by_cases h2 : sa.size ≤ 1048576
    · cases bo
      all_goals
        go_enter Tryz.func13, Tryz.ntmps13
        go_wp2_with (first
          | (go_at_call 27; refine (HS.out _).mono ?_; rintro e w1 ⟨rfl, hb⟩; have HB1 := Lib.hid hb; clear hb)
          | (go_at_call 26; refine (HI.out _).mono ?_; rintro e w2 ⟨rfl, hb⟩; have HB2 := Lib.hid hb; clear hb))
        go_ret
        exact ⟨rfl, HB1.out.trans (HB2.out.mono HB1.out.size)⟩
    · go_enter Tryz.func13, Tryz.ntmps13
      go_wp2_with fail
      go_ret
      exact ⟨rfl, Below.refl _ _⟩
  · go_enter Tryz.func13, Tryz.ntmps13
    go_wp2_with fail
    go_ret
    exact ⟨rfl, Below.refl _ _⟩

end Go.Proofs.YtomaknmemhpghaaGreatDoor
