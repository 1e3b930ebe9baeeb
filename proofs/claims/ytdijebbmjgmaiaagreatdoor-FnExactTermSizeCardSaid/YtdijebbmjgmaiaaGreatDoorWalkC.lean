/- The walk of the law of TermSize. -/
import Derived.Test.YtdijebbmjgmaiaaGreatDoorImpZ
import Derived.Test.YtdijebbmjgmaiaaGreatDoorSpecM
import Derived.Test.YtdijebbmjgmaiaaGreatDoorSpecK
namespace Go.Proofs.YtdijebbmjgmaiaaGreatDoor
open Go.RowKit Rt Go.Lib

set_option maxHeartbeats 800000 in
theorem walkTermSize (s : ByteArray) (w : World) (hs : s.size ≤ maxLen) :
    Calls Tryz.prog 5 #[.string s] w fun e w' => e = .returned (.bool true) ∧ Below w.heap.size w w' := by
  have HS : Hid (∀ W, Calls Tryz.prog 13 #[.string s] W fun e w' => e = .returned (.int .i64 (sizeRes s.data.toList)) ∧ Below W.heap.size W w') := fun W => specTermSize l1Bag_any s hs W
  have HI : Hid (∀ W, Calls Tryz.prog 14 #[.string s] W fun e w' => e = .returned (.int .i64 (sizeRes s.data.toList)) ∧ Below W.heap.size W w') := fun W => implTermSize s hs W
  generalize sizeRes s.data.toList = z at HS HI
  unfold maxLen at hs
  by_cases hlt : s.size ≤ 1048576
  · go_enter Tryz.func5, Tryz.ntmps5
    go_wp2_with (first
      | (go_at_call 13; refine (HS.out _).mono ?_; rintro e w1 ⟨rfl, hb⟩; have HB1 := Lib.hid hb; clear hb)
      | (go_at_call 14; refine (HI.out _).mono ?_; rintro e w2 ⟨rfl, hb⟩; have HB2 := Lib.hid hb; clear hb))
    go_ret
    exact ⟨rfl, HB1.out.trans (HB2.out.mono HB1.out.size)⟩
  · go_enter Tryz.func5, Tryz.ntmps5
    go_wp2_with fail
    go_ret
    exact ⟨rfl, Below.refl _ _⟩

end Go.Proofs.YtdijebbmjgmaiaaGreatDoor
