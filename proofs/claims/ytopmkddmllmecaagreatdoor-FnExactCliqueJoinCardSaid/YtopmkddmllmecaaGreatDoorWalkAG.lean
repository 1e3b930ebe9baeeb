/- The walk of the law of CliqueJoin. -/
import Derived.Test.YtopmkddmllmecaaGreatDoorCoQ
import Derived.Test.YtopmkddmllmecaaGreatDoorCoH
import Derived.Test.YtopmkddmllmecaaGreatDoorWalkAF
namespace Go.Proofs.YtopmkddmllmecaaGreatDoor
open Go.RowKit Rt Go.Lib

set_option maxHeartbeats 1600000 in
set_option maxRecDepth 100000 in
theorem walkCliqueJoin (A : Option Addr) (c : Nat) (ss : List ByteArray) (w : World) (hn : ss.length ≤ maxLen) (hs : ∀ s ∈ ss, s.size ≤ maxLen) (hA : Texts w A ss) :
    Calls Tryz.prog 9 #[.slice A ss.length c] w fun e w' => e = .returned (.bool true) ∧ Below w.heap.size w w' := by
  have HZ := Lib.hid (szStringS_any A c ss 1048576 w (by omega) (by omega) hn hs hA)
  have HLEN : Hid (0 ≤ szL ss 1048576 → ss.length ≤ 1048576) := szL_len ss
  generalize szL ss 1048576 = z at HZ HLEN
  have HA := Lib.hid hA
  have HS : Hid (∀ (W : World) (A' : Option Addr), ss.length ≤ 1048576 → Texts W A' ss → Calls Tryz.prog 30 #[.slice A' ss.length ss.length] W fun e w' => e = .returned (.tuple #[st (joinRes ss).1, .bool (joinRes ss).2]) ∧ Below W.heap.size W w') := fun W A' h1 h2 => specCliqueJoin A' _ ss W h1 hs h2
  have HI : Hid (∀ (W : World) (A' : Option Addr), ss.length ≤ 1048576 → Texts W A' ss → Calls Tryz.prog 31 #[.slice A' ss.length ss.length] W fun e w' => e = .returned (.tuple #[st (joinRes ss).1, .bool (joinRes ss).2]) ∧ Below W.heap.size W w') := fun W A' h1 h2 => implCliqueJoin A' _ ss W h1 hs h2
  rw [st_eq] at HS HI
  generalize (⟨(joinRes ss).1.toArray⟩ : ByteArray) = u at HS HI
  generalize (joinRes ss).2 = bo at HS HI
  have hq1 : (u.toList == u.toList) = true := by simp
  have hq2 : (u.toList != u.toList) = false := by simp
  clear hA hs
  unfold maxLen at hn
  by_cases hz : z < 0
  · go_enter Tryz.func9, Tryz.ntmps9
    go_wp2_with (go_at_call 25; refine HZ.out.mono ?_; rintro e w' ⟨rfl, rfl⟩)
    go_ret
    exact ⟨rfl, Below.refl _ _⟩
  · have hl := HLEN.out (by omega)
    cases bo
    all_goals
      go_enter Tryz.func9, Tryz.ntmps9
      go_wp2_with (go_at_call 25; refine HZ.out.mono ?_; rintro e w' ⟨rfl, rfl⟩)
      refine (toStringS_any A c ss w hl HA.out).mono ?_
      rintro e w1 ⟨hb1, rfl, hown1⟩
      have HB1 := Lib.hid hb1
      have HO1 := Lib.hid hown1
      clear hb1 hown1
      go_wp2_with fail
      refine (HS.out w1 _ hl (Texts.own HO1.out)).mono ?_
      rintro e w2 ⟨rfl, hb2⟩
      have HB2 := Lib.hid (HB1.out.trans (hb2.mono HB1.out.size))
      clear hb2
      go_wp2_with fail
      refine (toStringS_any A c ss w2 hl (HA.out.below HB2.out)).mono ?_
      rintro e w3 ⟨hb3, rfl, hown3⟩
      have HB3 := Lib.hid (HB2.out.trans (hb3.mono HB2.out.size))
      have HO3 := Lib.hid hown3
      clear hb3 hown3
      go_wp2_with fail
      refine (HI.out w3 _ hl (Texts.own HO3.out)).mono ?_
      rintro e w4 ⟨rfl, hb4⟩
      have HB4 := Lib.hid (HB3.out.trans (hb4.mono HB3.out.size))
      have HX4 := Lib.hid ((Texts.own HO3.out).below hb4)
      clear hb4
      go_wp2_with fail
      refine (toStringS_any A c ss w4 hl (HA.out.below HB4.out)).mono ?_
      rintro e w5 ⟨hb5, rfl, hown5⟩
      have HB5 := Lib.hid (HB4.out.trans (hb5.mono HB4.out.size))
      have HX5 := Lib.hid (HX4.out.below hb5)
      have HO5 := Lib.hid hown5
      clear hb5 hown5
      go_wp2_with fail
      refine (eqStringS_same _ _ _ _ ss w5 (by unfold maxLen; omega) HX5.out (Texts.own HO5.out)).mono ?_
      rintro e w6 ⟨rfl, hb6⟩
      have HB6 := Lib.hid (HB5.out.trans (hb6.mono HB5.out.size))
      clear hb6
      go_wp2_with fail
      go_ret
      exact ⟨rfl, HB6.out⟩

end Go.Proofs.YtopmkddmllmecaaGreatDoor
