/- The walk of the law of TermNormal. -/
import Derived.Test.YtdijebbmjgmaiaaGreatDoorRdZ
import Derived.Test.YtdijebbmjgmaiaaGreatDoorSpecK
namespace Go.Proofs.YtdijebbmjgmaiaaGreatDoor
open Go.RowKit Rt Go.Lib

set_option maxHeartbeats 800000 in
theorem walkTermNormal (s : ByteArray) (w : World) (hs : s.size ≤ maxLen) :
    Calls Tryz.prog 7 #[.string s] w fun e w' => e = .returned (.bool true) ∧ Below w.heap.size w w' := by
  have HS : Hid (∀ W, Calls Tryz.prog 17 #[.string s] W fun e w' => e = .returned (.bool (redRes s.data.toList == 0)) ∧ Below W.heap.size W w') := fun W => specTermNormal l1Bag_any s hs W
  have HI : Hid (∀ W, Calls Tryz.prog 18 #[.string s] W fun e w' => e = .returned (.bool (redRes s.data.toList == 0)) ∧ Below W.heap.size W w') := fun W => implTermNormal s hs W
  generalize (redRes s.data.toList == 0) = b at HS HI
  unfold maxLen at hs
  by_cases hlt : s.size ≤ 1048576
  · cases b
    all_goals
      go_enter Tryz.func7, Tryz.ntmps7
      go_wp2_with (first
        | (go_at_call 17; refine (HS.out _).mono ?_; rintro e w1 ⟨rfl, hb⟩; have HB1 := Lib.hid hb; clear hb)
        | (go_at_call 18; refine (HI.out _).mono ?_; rintro e w2 ⟨rfl, hb⟩; have HB2 := Lib.hid hb; clear hb))
      go_ret
      exact ⟨rfl, HB1.out.trans (HB2.out.mono HB1.out.size)⟩
  · go_enter Tryz.func7, Tryz.ntmps7
    go_wp2_with fail
    go_ret
    exact ⟨rfl, Below.refl _ _⟩

end Go.Proofs.YtdijebbmjgmaiaaGreatDoor
