/- The walk of the law of Coherent. -/
import Derived.Test.YtopmkddmllmecaaGreatDoorCoK
import Derived.Test.YtopmkddmllmecaaGreatDoorCoH
namespace Go.Proofs.YtopmkddmllmecaaGreatDoor
open Go.RowKit Rt Go.Lib

set_option maxHeartbeats 800000 in
theorem walkCoherent (s0 s1 : ByteArray) (w : World) (h0 : s0.size ≤ maxLen) (h1 : s1.size ≤ maxLen) :
    Calls Tryz.prog 6 #[.string s0, .string s1] w fun e w' => e = .returned (.bool true) ∧ Below w.heap.size w w' := by
  have HS : Hid (∀ W, Calls Tryz.prog 21 #[.string s0, .string s1] W fun e w' => e = .returned (.bool (cohRes s0 s1)) ∧ Below W.heap.size W w') := fun W => specCoherent s0 s1 W h0 h1
  have HI : Hid (∀ W, Calls Tryz.prog 22 #[.string s0, .string s1] W fun e w' => e = .returned (.bool (cohRes s0 s1)) ∧ Below W.heap.size W w') := fun W => implCoherent s0 s1 W h0 h1
  generalize cohRes s0 s1 = b at HS HI
  unfold maxLen at h0 h1
  by_cases hlt0 : s0.size ≤ 1048576
  · by_cases hlt1 : s1.size ≤ 1048576
    · cases b
      all_goals
        go_enter Tryz.func6, Tryz.ntmps6
        go_wp2_with (first
          | (go_at_call 21; refine (HS.out _).mono ?_; rintro e w1 ⟨rfl, hb⟩; have HB1 := Lib.hid hb; clear hb)
          | (go_at_call 22; refine (HI.out _).mono ?_; rintro e w2 ⟨rfl, hb⟩; have HB2 := Lib.hid hb; clear hb))
        go_ret
        exact ⟨rfl, HB1.out.trans (HB2.out.mono HB1.out.size)⟩
    · go_enter Tryz.func6, Tryz.ntmps6
      go_wp2_with fail
      go_ret
      exact ⟨rfl, Below.refl _ _⟩
  · go_enter Tryz.func6, Tryz.ntmps6
    go_wp2_with fail
    go_ret
    exact ⟨rfl, Below.refl _ _⟩

end Go.Proofs.YtopmkddmllmecaaGreatDoor
