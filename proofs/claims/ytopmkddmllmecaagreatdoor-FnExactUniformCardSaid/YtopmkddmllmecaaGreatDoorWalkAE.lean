/- The walk of the law of Uniform. -/
import Derived.Test.YtopmkddmllmecaaGreatDoorCoK
import Derived.Test.YtopmkddmllmecaaGreatDoorCoH
namespace Go.Proofs.YtopmkddmllmecaaGreatDoor
open Go.RowKit Rt Go.Lib

set_option maxHeartbeats 800000 in
theorem walkUniform (s0 : ByteArray) (w : World) (h0 : s0.size ≤ maxLen) :
    Calls Tryz.prog 7 #[.string s0] w fun e w' => e = .returned (.bool true) ∧ Below w.heap.size w w' := by
  have HS : Hid (∀ W, Calls Tryz.prog 23 #[.string s0] W fun e w' => e = .returned (.bool (cohRes s0 s0)) ∧ Below W.heap.size W w') := fun W => specUniform s0 W h0
  have HI : Hid (∀ W, Calls Tryz.prog 24 #[.string s0] W fun e w' => e = .returned (.bool (cohRes s0 s0)) ∧ Below W.heap.size W w') := fun W => implUniform s0 W h0
  generalize cohRes s0 s0 = b at HS HI
  unfold maxLen at h0
  by_cases hlt0 : s0.size ≤ 1048576
  · cases b
    all_goals
      go_enter Tryz.func7, Tryz.ntmps7
      go_wp2_with (first
        | (go_at_call 23; refine (HS.out _).mono ?_; rintro e w1 ⟨rfl, hb⟩; have HB1 := Lib.hid hb; clear hb)
        | (go_at_call 24; refine (HI.out _).mono ?_; rintro e w2 ⟨rfl, hb⟩; have HB2 := Lib.hid hb; clear hb))
      go_ret
      exact ⟨rfl, HB1.out.trans (HB2.out.mono HB1.out.size)⟩
  · go_enter Tryz.func7, Tryz.ntmps7
    go_wp2_with fail
    go_ret
    exact ⟨rfl, Below.refl _ _⟩

end Go.Proofs.YtopmkddmllmecaaGreatDoor
