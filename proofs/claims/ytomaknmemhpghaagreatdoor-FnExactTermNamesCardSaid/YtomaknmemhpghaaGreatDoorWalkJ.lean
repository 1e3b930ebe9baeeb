/- The walk of the law of TermNames. -/
import Derived.Test.YtomaknmemhpghaaGreatDoorKdC
import Derived.Test.YtomaknmemhpghaaGreatDoorNmA
import Derived.Test.YtomaknmemhpghaaGreatDoorNmC
namespace Go.Proofs.YtomaknmemhpghaaGreatDoor
open Go.RowKit Rt Go.Lib

set_option maxHeartbeats 3200000 in
set_option maxRecDepth 100000 in
theorem walkTermNames (s : ByteArray) (w : World) (hs : s.size ≤ maxLen) :
    Calls Tryz.prog 8 #[.string s] w fun e w' => e = .returned (.bool true) ∧ Below w.heap.size w w' := by
  have HS : Hid (∀ W, Calls Tryz.prog 35 #[.string s] W (KidsPost W (namesRes s.data.toList))) := fun W => specTermNames l1Bag_any s hs W
  have HI : Hid (∀ W, Calls Tryz.prog 32 #[.string s] W (KidsPost W (namesRes s.data.toList))) := fun W => implTermNames s hs W
  have hlen := namesRes_len s.data.toList
  generalize namesRes s.data.toList = r at HS HI hlen
  obtain ⟨ss, bo⟩ := r
  have hlen' : ss.length ≤ 1000000 := hlen
  obtain ⟨n, hn⟩ : ∃ n, n = ss.length := ⟨_, rfl⟩
  rw [← hn] at hlen'
  have HN := Lib.hid hn
  unfold maxLen at hs
  clear hlen hn
  by_cases h1 : s.size ≤ 1048576
  · cases bo
    all_goals
      go_enter Tryz.func8, Tryz.ntmps8
      go_wp2_with fail
      refine (HS.out w).mono ?_
      rintro e w1 ⟨hb1, A0, c0, rfl, hown1⟩
      have HB1 := Lib.hid hb1
      have HT1 := Lib.hid (Texts.row hown1)
      clear hb1 hown1
      simp only [← HN.out]
      go_wp2_with fail
      refine (HI.out w1).mono ?_
      rintro e w2 ⟨hb2, A1, c1, rfl, hown2⟩
      have HB2 := Lib.hid hb2
      have HO2 := Lib.hid hown2
      clear hb2 hown2
      simp only [← HN.out]
      go_wp2_with fail
      have he3 := eqStringS_same A1 A0 c1 c0 ss w2 (by have := HN.out; unfold maxLen; omega) (Texts.row HO2.out) (HT1.out.below HB2.out)
      rw [← HN.out] at he3
      refine he3.mono ?_
      rintro e w3 ⟨rfl, hb3⟩
      have HB3 := Lib.hid (HB2.out.trans (hb3.mono HB2.out.size))
      have HO3 := Lib.hid (own_go HO2.out hb3)
      clear hb3 he3
      go_wp2_with fail
      have hm4 := markStringS_any A1 c1 n 1 w1.heap.size (strv ss) w3 (by omega) hlen' (by omega) (by rw [HN.out]; exact HO3.out)
      refine hm4.mono ?_
      rintro e w4 ⟨rfl, hb4, hown4⟩
      have HB4 := Lib.hid (HB3.out.trans hb4)
      have HO4 := Lib.hid hown4
      have hw4 : w1.heap.size ≤ w4.heap.size := HB4.out.size
      clear hb4 hown4 hm4
      generalize hM : ((1 + n : Nat) : Int) = M
      have hM0 : 0 ≤ M := by omega
      go_wp2_with fail
      have hh5 := heldStringS_same A1 c1 n 1 w4 (by omega) hlen' (by omega) (Texts.marks HO4.out)
      rw [hM] at hh5
      refine hh5.mono ?_
      rintro e w5 ⟨rfl, hb5⟩
      have HB5 := Lib.hid (HB4.out.trans (hb5.mono hw4))
      have HO5 := Lib.hid (own_go HO4.out hb5)
      have hw5 : w1.heap.size ≤ w5.heap.size := HB5.out.size
      clear hb5 hh5
      go_wp2_with fail
      refine (HI.out w5).mono ?_
      rintro e w6 ⟨hb6, A6, c6, rfl, hown6⟩
      have HB6 := Lib.hid (HB5.out.trans (hb6.mono hw5))
      have HO6 := Lib.hid (own_go HO5.out hb6)
      have HT6 := Lib.hid (Texts.row hown6)
      have hw6 : w1.heap.size ≤ w6.heap.size := HB6.out.size
      clear hb6 hown6
      simp only [← HN.out]
      go_wp2_with fail
      have he7 := eqStringS_same A6 A0 c6 c0 ss w6 (by have := HN.out; unfold maxLen; omega) HT6.out (HT1.out.below HB6.out)
      rw [← HN.out] at he7
      refine he7.mono ?_
      rintro e w7 ⟨rfl, hb7⟩
      have HB7 := Lib.hid (HB6.out.trans (hb7.mono hw6))
      have HO7 := Lib.hid (own_go HO6.out hb7)
      have hw7 : w1.heap.size ≤ w7.heap.size := HB7.out.size
      clear hb7 he7
      go_wp2_with fail
      have hh8 := heldStringS_same A1 c1 n 1 w7 (by omega) hlen' (by omega) (Texts.marks HO7.out)
      rw [hM] at hh8
      refine hh8.mono ?_
      rintro e w8 ⟨rfl, hb8⟩
      have HB8 := Lib.hid (HB7.out.trans (hb8.mono hw7))
      clear hb8 hh8
      go_wp2_with fail
      go_ret
      exact ⟨rfl, HB1.out.trans (HB8.out.mono HB1.out.size)⟩
  · go_enter Tryz.func8, Tryz.ntmps8
    go_wp2_with fail
    go_ret
    exact ⟨rfl, Below.refl _ _⟩

end Go.Proofs.YtomaknmemhpghaaGreatDoor
