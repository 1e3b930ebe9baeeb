/- The walk of the law of TermRename. -/
import Derived.Test.YtomaknmemhpghaaGreatDoorSpE
namespace Go.Proofs.YtomaknmemhpghaaGreatDoor
open Go.RowKit Rt Go.Lib

theorem bytes_eq (s : ByteArray) : ∃ a : B, s = ⟨a.toArray⟩ := ⟨s.data.toList, by cases s; simp⟩

set_option maxHeartbeats 1600000 in
theorem walkTermRename (s sa sb : ByteArray) (w : World) (hs : s.size ≤ maxLen) (ha : sa.size ≤ maxLen) (hb : sb.size ≤ maxLen) :
    Calls Tryz.prog 12 #[.string s, .string sa, .string sb] w fun e w' => e = .returned (.bool true) ∧ Below w.heap.size w w' := by
  obtain ⟨a, rfl⟩ := bytes_eq sa
  obtain ⟨b, rfl⟩ := bytes_eq sb
  have ha' : a.length ≤ maxLen := by simpa [ByteArray.size] using ha
  have hb' : b.length ≤ maxLen := by simpa [ByteArray.size] using hb
  have HS : Hid (∀ W, Calls Tryz.prog 46 #[.string s, .string ⟨a.toArray⟩, .string ⟨b.toArray⟩] W fun e w' => e = .returned (.tuple #[st (renRes s.data.toList a b).1, .bool (renRes s.data.toList a b).2]) ∧ Below W.heap.size W w') := fun W => specTermRename l1Bag_any s a b hs ha' hb' W
  have HI : Hid (∀ W, Calls Tryz.prog 47 #[.string s, .string ⟨a.toArray⟩, .string ⟨b.toArray⟩] W fun e w' => e = .returned (.tuple #[st (renRes s.data.toList a b).1, .bool (renRes s.data.toList a b).2]) ∧ Below W.heap.size W w') := fun W => implTermRename s a b hs ha' hb' W
  rw [st_eq] at HS HI
  generalize (⟨(renRes s.data.toList a b).1.toArray⟩ : ByteArray) = u at HS HI
  generalize (renRes s.data.toList a b).2 = bo at HS HI
  clear ha' hb'
  generalize (⟨a.toArray⟩ : ByteArray) = sa at *
  generalize (⟨b.toArray⟩ : ByteArray) = sb at *
  unfold maxLen at hs ha hb
  have hq1 : (u.toList == u.toList) = true := by simp
  have hq2 : (u.toList != u.toList) = false := by simp
  by_cases h1 : s.size ≤ 1048576
  · by_cases h2 : sa.size ≤ 1048576
    · by_cases h3 : sb.size ≤ 1048576
      · cases bo
        all_goals
          go_enter Tryz.func12, Tryz.ntmps12
          go_wp2_with (first
            | (go_at_call 46; refine (HS.out _).mono ?_; rintro e w1 ⟨rfl, hb⟩; have HB1 := Lib.hid hb; clear hb)
            | (go_at_call 47; refine (HI.out _).mono ?_; rintro e w2 ⟨rfl, hb⟩; have HB2 := Lib.hid hb; clear hb))
          go_ret
          exact ⟨rfl, HB1.out.trans (HB2.out.mono HB1.out.size)⟩
      · go_enter Tryz.func12, Tryz.ntmps12
        go_wp2_with fail
        go_ret
        exact ⟨rfl, Below.refl _ _⟩
    · go_enter Tryz.func12, Tryz.ntmps12
      go_wp2_with fail
      go_ret
      exact ⟨rfl, Below.refl _ _⟩
  · go_enter Tryz.func12, Tryz.ntmps12
    go_wp2_with fail
    go_ret
    exact ⟨rfl, Below.refl _ _⟩

end Go.Proofs.YtomaknmemhpghaaGreatDoor
