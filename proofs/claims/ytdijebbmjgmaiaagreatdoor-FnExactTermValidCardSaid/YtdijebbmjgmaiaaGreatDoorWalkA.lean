/- The walk of the law of TermValid. -/
import Derived.Test.YtdijebbmjgmaiaaGreatDoorImpZ
import Derived.Test.YtdijebbmjgmaiaaGreatDoorSpecM
import Derived.Test.YtdijebbmjgmaiaaGreatDoorSpecK
namespace Go.Proofs.YtdijebbmjgmaiaaGreatDoor
open Go.RowKit Rt Go.Lib

set_option maxHeartbeats 800000 in
theorem walkTermValid (s : ByteArray) (w : World) (hs : s.size ≤ maxLen) :
    Calls Tryz.prog 3 #[.string s] w fun e w' => e = .returned (.bool true) ∧ Below w.heap.size w w' := by
  have HS : Hid (∀ W, Calls Tryz.prog 9 #[.string s] W fun e w' => e = .returned (.bool (termOf s.data.toList).isSome) ∧ Below W.heap.size W w') := fun W => specTermValid l1Bag_any s hs W
  have HI : Hid (∀ W, Calls Tryz.prog 10 #[.string s] W fun e w' => e = .returned (.bool (termOf s.data.toList).isSome) ∧ Below W.heap.size W w') := fun W => implTermValid s hs W
  generalize (termOf s.data.toList).isSome = b at HS HI
  unfold maxLen at hs
  by_cases hlt : s.size ≤ 1048576
  · cases b
    all_goals
      go_enter Tryz.func3, Tryz.ntmps3
      go_wp2_with (first
        | (go_at_call 9; refine (HS.out _).mono ?_; rintro e w1 ⟨rfl, hb⟩; have HB1 := Lib.hid hb; clear hb)
        | (go_at_call 10; refine (HI.out _).mono ?_; rintro e w2 ⟨rfl, hb⟩; have HB2 := Lib.hid hb; clear hb))
      go_ret
      exact ⟨rfl, HB1.out.trans (HB2.out.mono HB1.out.size)⟩
  · go_enter Tryz.func3, Tryz.ntmps3
    go_wp2_with fail
    go_ret
    exact ⟨rfl, Below.refl _ _⟩

end Go.Proofs.YtdijebbmjgmaiaaGreatDoor
