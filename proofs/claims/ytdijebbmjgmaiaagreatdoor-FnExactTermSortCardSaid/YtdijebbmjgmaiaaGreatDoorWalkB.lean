/- The walk of the law of TermSort. -/
import Derived.Test.YtdijebbmjgmaiaaGreatDoorImpZ
import Derived.Test.YtdijebbmjgmaiaaGreatDoorSpecM
import Derived.Test.YtdijebbmjgmaiaaGreatDoorSpecK
namespace Go.Proofs.YtdijebbmjgmaiaaGreatDoor
open Go.RowKit Rt Go.Lib

set_option maxHeartbeats 800000 in
theorem walkTermSort (s : ByteArray) (w : World) (hs : s.size ≤ maxLen) :
    Calls Tryz.prog 4 #[.string s] w fun e w' => e = .returned (.bool true) ∧ Below w.heap.size w w' := by
  have HS : Hid (∀ W, Calls Tryz.prog 11 #[.string s] W fun e w' => e = .returned (.tuple #[st (sortRes s.data.toList).1, .bool (sortRes s.data.toList).2]) ∧ Below W.heap.size W w') := fun W => specTermSort l1Bag_any s hs W
  have HI : Hid (∀ W, Calls Tryz.prog 12 #[.string s] W fun e w' => e = .returned (.tuple #[st (sortRes s.data.toList).1, .bool (sortRes s.data.toList).2]) ∧ Below W.heap.size W w') := fun W => implTermSort s hs W
  rw [st_eq] at HS HI
  generalize (⟨(sortRes s.data.toList).1.toArray⟩ : ByteArray) = u at HS HI
  generalize (sortRes s.data.toList).2 = b at HS HI
  unfold maxLen at hs
  have hq1 : (u.toList == u.toList) = true := by simp
  have hq2 : (u.toList != u.toList) = false := by simp
  by_cases hlt : s.size ≤ 1048576
  · cases b
    all_goals
      go_enter Tryz.func4, Tryz.ntmps4
      go_wp2_with (first
        | (go_at_call 11; refine (HS.out _).mono ?_; rintro e w1 ⟨rfl, hb⟩; have HB1 := Lib.hid hb; clear hb)
        | (go_at_call 12; refine (HI.out _).mono ?_; rintro e w2 ⟨rfl, hb⟩; have HB2 := Lib.hid hb; clear hb))
      go_ret
      exact ⟨rfl, HB1.out.trans (HB2.out.mono HB1.out.size)⟩
  · go_enter Tryz.func4, Tryz.ntmps4
    go_wp2_with fail
    go_ret
    exact ⟨rfl, Below.refl _ _⟩

end Go.Proofs.YtdijebbmjgmaiaaGreatDoor
