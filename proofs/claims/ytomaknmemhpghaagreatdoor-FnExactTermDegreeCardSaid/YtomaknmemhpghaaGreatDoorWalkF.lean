/- The walk of the law of TermDegree. -/
import Derived.Test.YtomaknmemhpghaaGreatDoorDgD
import Derived.Test.YtomaknmemhpghaaGreatDoorWalkD
namespace Go.Proofs.YtomaknmemhpghaaGreatDoor
open Go.RowKit Rt Go.Lib

set_option maxHeartbeats 1600000 in
theorem walkTermDegree (s sa : ByteArray) (w : World) (hs : s.size ≤ maxLen) (ha : sa.size ≤ maxLen) :
    Calls Tryz.prog 9 #[.string s, .string sa] w fun e w' => e = .returned (.bool true) ∧ Below w.heap.size w w' := by
  obtain ⟨a, rfl⟩ := bytes_eq sa
  have ha' : a.length ≤ maxLen := by simpa [ByteArray.size] using ha
  have HS : Hid (∀ W, Calls Tryz.prog 39 #[.string s, .string ⟨a.toArray⟩] W fun e w' => e = .returned (.int .i64 (degRes s.data.toList a)) ∧ Below W.heap.size W w') := fun W => specTermDegree l1Bag_any s a hs ha' W
  have HI : Hid (∀ W, Calls Tryz.prog 40 #[.string s, .string ⟨a.toArray⟩] W fun e w' => e = .returned (.int .i64 (degRes s.data.toList a)) ∧ Below W.heap.size W w') := fun W => implTermDegree s a hs ha' W
  generalize degRes s.data.toList a = z at HS HI
  clear ha'
  generalize (⟨a.toArray⟩ : ByteArray) = sa at *
  unfold maxLen at hs ha
  by_cases h1 : s.size ≤ 1048576
  · by_cases h2 : sa.size ≤ 1048576
    · go_enter Tryz.func9, Tryz.ntmps9
      go_wp2_with (first
        | (go_at_call 39; refine (HS.out _).mono ?_; rintro e w1 ⟨rfl, hb⟩; have HB1 := Lib.hid hb; clear hb)
        | (go_at_call 40; refine (HI.out _).mono ?_; rintro e w2 ⟨rfl, hb⟩; have HB2 := Lib.hid hb; clear hb))
      go_ret
      exact ⟨rfl, HB1.out.trans (HB2.out.mono HB1.out.size)⟩
    · go_enter Tryz.func9, Tryz.ntmps9
      go_wp2_with fail
      go_ret
      exact ⟨rfl, Below.refl _ _⟩
  · go_enter Tryz.func9, Tryz.ntmps9
    go_wp2_with fail
    go_ret
    exact ⟨rfl, Below.refl _ _⟩

end Go.Proofs.YtomaknmemhpghaaGreatDoor
