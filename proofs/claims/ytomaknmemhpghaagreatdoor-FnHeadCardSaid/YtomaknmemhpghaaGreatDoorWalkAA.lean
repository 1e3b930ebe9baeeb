/- The walk of the law FnHead. -/
import Derived.Test.YtomaknmemhpghaaGreatDoorDrE
import Derived.Test.YtomaknmemhpghaaGreatDoorHtA
import Derived.Test.YtomaknmemhpghaaGreatDoorNmC
import Derived.Test.YtomaknmemhpghaaGreatDoorRdZ
import Derived.Test.YtomaknmemhpghaaGreatDoorRedB
import Derived.Test.YtomaknmemhpghaaGreatDoorSpecK
set_option linter.unusedSimpArgs false
set_option linter.unusedVariables false
namespace Go.Proofs.YtomaknmemhpghaaGreatDoor
open Go.RowKit Rt Go.Lib

set_option maxHeartbeats 800000 in
set_option maxRecDepth 100000 in
theorem drawHeadName_any (hBag : BagSaid) (A : Option Addr) (n c : Nat) (w : World) (hn : n ≤ maxLen) (hnc : n ≤ c) (hB : Bytes w A n) :
    Calls Tryz.prog 29 #[.slice A n c] w (DrawPost w) := by
  have HO := Lib.hid (l6Open_any A n c w hn hnc hB)
  clear hB
  go_enter Tryz.func29, Tryz.ntmps29
  go_wp2_with fail
  refine HO.out.mono ?_
  rintro e w1 ⟨rfl, hb1, m, hr1⟩
  have HB1 := Lib.hid hb1
  have HR1 := Lib.hid hr1
  clear hb1 hr1
  go_wp2_with fail
  refine (l91Odd_any hBag w.heap.size A m c 0 w1 HR1.out (by omega)).mono ?_
  rintro e w2 ⟨s, q, rfl, hs, -, hg, -⟩
  have HB2 := Lib.hid (below_draw HB1.out hg)
  clear hg
  go_wp2_with fail
  go_ret
  exact draw_mk hs HB2.out

/-- Where HeadName tells a name, the term is normal and the name is one of its names. -/
theorem head_said (a h : B) (hh : headRes a = (h, true)) : ∃ t, termOf a = some t ∧ redRes a = 0 ∧ h ∈ names t ∧ ok 0 t = true := by
  unfold headRes at hh
  cases ht : termOf a with
  | none => rw [ht] at hh; simp at hh
  | some t =>
    rw [ht] at hh
    have hh2 : headOf t = (h, true) := hh
    have h2 := headOf_yes t (by rw [hh2])
    rw [hh2] at h2
    exact ⟨t, rfl, by rw [redRes, ht]; show ((redN t : Nat) : Int) = 0; rw [h2.1]; rfl, h2.2, (termOf_facts a t ht).1⟩

theorem texts_bysA {w : World} {base c : Nat} {A : Option Addr} {l : List B} (h : w.ownsRow base 9 1 (.slice A l.length c) l.length (strv (bys l))) : Texts w A (bys l) := by
  have e := bys_len l
  rw [← e] at h
  intro j s hs
  obtain ⟨g, rfl, -⟩ := own_cells h (by have := (List.getElem?_eq_some_iff.1 hs).1; omega)
  exact Texts.own h j s hs

set_option maxHeartbeats 3200000 in
set_option maxRecDepth 100000 in
theorem walkFnHead (A : Option Addr) (n c : Nat) (w : World) (hn : n ≤ maxLen) (hnc : n ≤ c) (hB : Bytes w A n) :
    Calls Tryz.prog 7 #[.slice A n c] w fun e w' => e = .returned (.bool true) ∧ Below w.heap.size w w' := by
  have HD := Lib.hid (drawHeadName_any l1Bag_any A n c w hn hnc hB)
  unfold maxLen at hn
  clear hB
  by_cases h1 : n ≤ 1048576
  · have d0 : decide ((n : Int) > 1048576) = false := by simp; omega
    go_enter Tryz.func7, Tryz.ntmps7
    go_wp2_with fail
    refine HD.out.mono ?_
    rintro e w1 ⟨a, rfl, ha, hb1⟩
    have HB1 := Lib.hid hb1
    clear hb1
    have HI : Hid (∀ W, Calls Tryz.prog 30 #[.string ⟨a.toArray⟩] W fun e w' => e = .returned (.tuple #[st (headRes a).1, .bool (headRes a).2]) ∧ Below W.heap.size W w') := fun W => implHeadName ⟨a.toArray⟩ (by simp [ByteArray.size, maxLen]; omega) W
    have HS : Hid (∀ W, Calls Tryz.prog 31 #[.string ⟨a.toArray⟩] W fun e w' => e = .returned (.tuple #[st (headRes a).1, .bool (headRes a).2]) ∧ Below W.heap.size W w') := fun W => specHeadName l1Bag_any ⟨a.toArray⟩ (by simp [ByteArray.size, maxLen]; omega) W
    have HN : Hid (∀ W, Calls Tryz.prog 32 #[.string ⟨a.toArray⟩] W (KidsPost W (namesRes a))) := fun W => implTermNames ⟨a.toArray⟩ (by simp [ByteArray.size, maxLen]; omega) W
    have HM : Hid (∀ W, Calls Tryz.prog 34 #[.string ⟨a.toArray⟩] W fun e w' => e = .returned (.bool (redRes a == 0)) ∧ Below W.heap.size W w') := fun W => implTermNormal ⟨a.toArray⟩ (by simp [ByteArray.size, maxLen]; omega) W
    obtain ⟨h, bo, hh⟩ : ∃ h bo, headRes a = (h, bo) := ⟨_, _, rfl⟩
    rw [hh] at HI HS
    rw [st_eq] at HI HS
    have hq1 : (h == h) = true := by simp
    have hq2 : (h != h) = false := by simp
    cases bo
    · clear HN HM hh
      go_wp2_with fail
      refine (HI.out w1).mono ?_
      rintro e w2 ⟨rfl, hb2⟩
      have HB2 := Lib.hid (HB1.out.trans (hb2.mono HB1.out.size))
      clear hb2
      go_wp2_with fail
      refine (HS.out w2).mono ?_
      rintro e w3 ⟨rfl, hb3⟩
      have HB3 := Lib.hid (HB2.out.trans (hb3.mono HB2.out.size))
      clear hb3
      go_wp2_with fail
      go_ret
      exact ⟨rfl, HB3.out⟩
    · obtain ⟨t, ht, hr0, hmem, hok⟩ := head_said a h hh
      have hnr : namesRes a = (bys (nmL t), true) := by rw [namesRes, ht]
      rw [hnr] at HN
      rw [hr0] at HM
      have hl60 : (nmL t).length ≤ 60 := by have := nmL_len t; have := (termOf_facts a t ht).2; omega
      have hin : h ∈ nmL t := (nmL_mem 0 t hok h).2 hmem
      have hbl := bys_len (nmL t)
      obtain ⟨l, hll⟩ : ∃ l, l = nmL t := ⟨_, rfl⟩
      rw [← hll] at HN hl60 hin hbl
      have HHT : Hid (∀ W A c, Texts W A (bys l) → Calls Tryz.prog 33 #[.slice A l.length c, .string ⟨h.toArray⟩] W fun e w' => e = .returned (.bool true) ∧ Below W.heap.size W w') := fun W A c ht => by
        have := hasText_any A l.length c l h W rfl (by omega) ht
        rwa [decide_eq_true hin] at this
      have HN' : Hid (∀ W, Calls Tryz.prog 32 #[.string ⟨a.toArray⟩] W fun e w' => Below W.heap.size W w' ∧ ∃ A c, e = .returned (.tuple #[.slice A l.length c, .bool true]) ∧ w'.ownsRow W.heap.size 9 1 (.slice A l.length c) l.length (strv (bys l))) := by
        intro W
        have := HN.out W
        unfold KidsPost at this
        rw [hbl] at this
        exact this
      have HM' : Hid (∀ W, Calls Tryz.prog 34 #[.string ⟨a.toArray⟩] W fun e w' => e = .returned (.bool true) ∧ Below W.heap.size W w') := HM.out
      clear hh ht hr0 hmem hok hnr hin HN HM hll
      go_wp2_with fail
      refine (HI.out w1).mono ?_
      rintro e w2 ⟨rfl, hb2⟩
      have HB2 := Lib.hid (HB1.out.trans (hb2.mono HB1.out.size))
      clear hb2
      go_wp2_with fail
      refine (HS.out w2).mono ?_
      rintro e w3 ⟨rfl, hb3⟩
      have HB3 := Lib.hid (HB2.out.trans (hb3.mono HB2.out.size))
      clear hb3
      go_wp2_with fail
      refine (HN'.out w3).mono ?_
      rintro e w4 ⟨hb4, A4, c4, rfl, hown4⟩
      have HB4 := Lib.hid (HB3.out.trans (hb4.mono HB3.out.size))
      have HT4 : Hid (Texts w4 A4 (bys l)) := texts_bysA hown4
      clear hb4 hown4
      go_wp2_with fail
      refine (HHT.out w4 A4 c4 HT4.out).mono ?_
      rintro e w5 ⟨rfl, hb5⟩
      have HB5 := Lib.hid (HB4.out.trans (hb5.mono HB4.out.size))
      clear hb5
      go_wp2_with fail
      refine (HM'.out w5).mono ?_
      rintro e w6 ⟨rfl, hb6⟩
      have HB6 := Lib.hid (HB5.out.trans (hb6.mono HB5.out.size))
      clear hb6
      go_wp2_with fail
      go_ret
      exact ⟨rfl, HB6.out⟩
  · have d0 : decide ((n : Int) > 1048576) = true := by simp; omega
    go_enter Tryz.func7, Tryz.ntmps7
    go_wp2_with fail
    go_ret
    exact ⟨rfl, Below.refl _ _⟩

end Go.Proofs.YtomaknmemhpghaaGreatDoor
