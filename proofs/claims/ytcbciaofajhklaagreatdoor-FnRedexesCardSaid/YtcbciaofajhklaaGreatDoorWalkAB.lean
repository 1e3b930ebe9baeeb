/- The walk of the law FnRedexes. -/
import Derived.Test.YtcbciaofajhklaaGreatDoorDrE
import Derived.Test.YtcbciaofajhklaaGreatDoorSpE
import Derived.Test.YtcbciaofajhklaaGreatDoorRedB
import Derived.Test.YtcbciaofajhklaaGreatDoorStA
import Derived.Test.YtcbciaofajhklaaGreatDoorSwE
import Derived.Test.YtcbciaofajhklaaGreatDoorSpecK
set_option linter.unusedSimpArgs false
set_option linter.unusedVariables false
namespace Go.Proofs.YtcbciaofajhklaaGreatDoor
open Go.RowKit Rt Go.Lib

set_option maxHeartbeats 800000 in
set_option maxRecDepth 100000 in
theorem drawRedexCount_any (hBag : BagSaid) (A : Option Addr) (n c : Nat) (w : World) (hn : n ≤ maxLen) (hnc : n ≤ c) (hB : Bytes w A n) :
    Calls Tryz.prog 5 #[.slice A n c] w (DrawPost w) := by
  have HO := Lib.hid (l6Open_any A n c w hn hnc hB)
  clear hB
  go_enter Tryz.func5, Tryz.ntmps5
  go_wp2_with fail
  refine HO.out.mono ?_
  rintro e w1 ⟨rfl, hb1, m, hr1⟩
  have HB1 := Lib.hid hb1
  have HR1 := Lib.hid hr1
  clear hb1 hr1
  go_wp2_with fail
  refine (l91Odd_any hBag w.heap.size A m c 0 w1 HR1.out (by omega)).mono ?_
  rintro e w2 ⟨s, q, rfl, hs, -, hg, -⟩
  have HB2 := Lib.hid (below_draw HB1.out hg)
  clear hg
  go_wp2_with fail
  go_ret
  exact draw_mk hs HB2.out

/-- A term that is bound has as many redexes, or it is not bound. -/
theorem bound_said (a : B) (t : Term) (o : B) (bo : Bool) (ht : termOf a = some t) (h : bindRes a [120] = (o, bo)) : o.length ≤ 4000 ∧ (bo = true → redRes o = redN t) := by
  have h1 := bindRes_size a [120]
  rw [h] at h1
  refine ⟨h1, fun hb => ?_⟩
  subst hb
  obtain ⟨o1, o2⟩ := termOf_ok a t ht
  unfold bindRes at h
  rw [ht] at h
  simp only at h
  split at h
  · rename_i hz
    injection h with h _
    obtain ⟨z1, z2⟩ := swp_ok (lBind [120]) 0 1 (lBind_ok [120] 0) t 0 (by omega) o1
    have hok : ok 0 (.lam (swp (lBind [120]) 0 t)) = true := by rw [ok]; exact z2
    have hs : size (.lam (swp (lBind [120]) 0 t)) = 1 + size t := by rw [Rt.size, z1]
    have := termOf_text (.lam (swp (lBind [120]) 0 t)) hok (by omega)
    rw [if_pos (by omega)] at this
    rw [← h, redRes, this]
    show ((redN (sort (.lam (swp (lBind [120]) 0 t))) : Nat) : Int) = redN t
    rw [redN_bound]
  · simp at h

set_option maxHeartbeats 3200000 in
set_option maxRecDepth 100000 in
theorem walkFnRedexes (A : Option Addr) (n c : Nat) (w : World) (hn : n ≤ maxLen) (hnc : n ≤ c) (hB : Bytes w A n) :
    Calls Tryz.prog 3 #[.slice A n c] w fun e w' => e = .returned (.bool true) ∧ Below w.heap.size w w' := by
  have HD := Lib.hid (drawRedexCount_any l1Bag_any A n c w hn hnc hB)
  unfold maxLen at hn
  clear hB
  by_cases h1 : n ≤ 1048576
  · have d0 : decide ((n : Int) > 1048576) = false := by simp; omega
    go_enter Tryz.func3, Tryz.ntmps3
    go_wp2_with fail
    refine HD.out.mono ?_
    rintro e w1 ⟨a, rfl, ha, hb1⟩
    have HB1 := Lib.hid hb1
    clear hb1
    have hal : (⟨a.toArray⟩ : ByteArray).size ≤ maxLen := by simp [ByteArray.size, maxLen]; omega
    have HI : Hid (∀ W, Calls Tryz.prog 6 #[.string ⟨a.toArray⟩] W fun e w' => e = .returned (.int .i64 (redRes a)) ∧ Below W.heap.size W w') := fun W => implRedexCount ⟨a.toArray⟩ hal W
    have HS : Hid (∀ W, Calls Tryz.prog 7 #[.string ⟨a.toArray⟩] W fun e w' => e = .returned (.int .i64 (redRes a)) ∧ Below W.heap.size W w') := fun W => specRedexCount l1Bag_any ⟨a.toArray⟩ hal W
    have HM : Hid (∀ W, Calls Tryz.prog 10 #[.string ⟨a.toArray⟩] W fun e w' => e = .returned (.bool (redRes a == 0)) ∧ Below W.heap.size W w') := fun W => implTermNormal ⟨a.toArray⟩ hal W
    have HN : Hid (∀ W, Calls Tryz.prog 9 #[.string ⟨a.toArray⟩, .string ⟨#[120]⟩] W fun e w' => e = .returned (.tuple #[st (bindRes a [120]).1, .bool (bindRes a [120]).2]) ∧ Below W.heap.size W w') := fun W => implTermBind ⟨a.toArray⟩ [120] hal (by simp [maxLen]) W
    cases ht : termOf a with
    | none =>
      have hr : redRes a = -1 := by rw [redRes, ht]
      rw [hr] at HI HS
      clear HM HN ht hr
      go_wp2_with fail
      refine (HI.out w1).mono ?_
      rintro e w2 ⟨rfl, hb2⟩
      have HB2 := Lib.hid (HB1.out.trans (hb2.mono HB1.out.size))
      clear hb2
      go_wp2_with fail
      refine (HS.out w2).mono ?_
      rintro e w3 ⟨rfl, hb3⟩
      have HB3 := Lib.hid (HB2.out.trans (hb3.mono HB2.out.size))
      clear hb3
      go_wp2_with fail
      go_ret
      exact ⟨rfl, HB3.out⟩
    | some t =>
      have hr : redRes a = (redN t : Int) := by rw [redRes, ht]
      rw [hr] at HI HS HM
      have HT : Hid (∀ W, Calls Tryz.prog 8 #[.string ⟨a.toArray⟩, .int .i64 (redN t)] W fun e w' => e = .returned (.tuple #[.agg #[.slice none 0 0, .slice none 0 0, .slice none 0 0], .bool false]) ∧ Below W.heap.size W w') := fun W => implTermStep_no ⟨a.toArray⟩ t hal ht W
      obtain ⟨o, bo, hbr⟩ : ∃ o bo, bindRes a [120] = (o, bo) := ⟨_, _, rfl⟩
      obtain ⟨hol, hob⟩ := bound_said a t o bo ht hbr
      rw [hbr, st_eq] at HN
      have HR : Hid (bo = true → ∀ W, Calls Tryz.prog 6 #[.string ⟨o.toArray⟩] W fun e w' => e = .returned (.int .i64 (redN t)) ∧ Below W.heap.size W w') := fun hb W => by
        have := implRedexCount ⟨o.toArray⟩ (by simp [ByteArray.size, maxLen]; omega) W
        simp only [hob hb] at this
        exact this
      have hrn := redN_le t
      have hsz := (termOf_ok a t ht).2
      clear ht hr hbr hob hol
      generalize redN t = rn at *
      have d1 : ¬ ((rn : Int) < 0) := by omega
      have d2 : ((rn : Int) == (rn : Int)) = true := by simp
      have d3 : ((rn : Int) != (rn : Int)) = false := by simp
      go_wp2_with fail
      refine (HI.out w1).mono ?_
      rintro e w2 ⟨rfl, hb2⟩
      have HB2 := Lib.hid (HB1.out.trans (hb2.mono HB1.out.size))
      clear hb2
      go_wp2_with fail
      refine (HS.out w2).mono ?_
      rintro e w3 ⟨rfl, hb3⟩
      have HB3 := Lib.hid (HB2.out.trans (hb3.mono HB2.out.size))
      clear hb3
      go_wp2_with fail
      refine (HT.out w3).mono ?_
      rintro e w4 ⟨rfl, hb4⟩
      have HB4 := Lib.hid (HB3.out.trans (hb4.mono HB3.out.size))
      clear hb4
      go_wp2_with fail
      have HB4a := Lib.hid (HB4.out.alloc HB4.out.size (.cells #[.slice none 0 0, .slice none 0 0, .slice none 0 0] 28))
      refine (HN.out _).mono ?_
      rintro e w5 ⟨rfl, hb5⟩
      have HB5 := Lib.hid (HB4a.out.trans (hb5.mono HB4a.out.size))
      clear hb5
      have hq9 : (((rn : Int) == 0) == ((rn : Int) == 0)) = true := by simp
      cases bo
      · clear HR
        go_wp2_with fail
        refine (HM.out w5).mono ?_
        rintro e w6 ⟨rfl, hb6⟩
        have HB6 := Lib.hid (HB5.out.trans (hb6.mono HB5.out.size))
        clear hb6
        go_wp2_with fail
        go_ret
        exact ⟨by first | rfl | simp, HB6.out⟩
      · have HR' := Lib.hid (HR.out rfl)
        clear HR
        go_wp2_with fail
        refine (HM.out w5).mono ?_
        rintro e w6 ⟨rfl, hb6⟩
        have HB6 := Lib.hid (HB5.out.trans (hb6.mono HB5.out.size))
        clear hb6
        go_wp2_with fail
        refine (HR'.out w6).mono ?_
        rintro e w7 ⟨rfl, hb7⟩
        have HB7 := Lib.hid (HB6.out.trans (hb7.mono HB6.out.size))
        clear hb7
        go_wp2_with fail
        go_ret
        exact ⟨by first | rfl | simp, HB7.out⟩
  · have d0 : decide ((n : Int) > 1048576) = true := by simp; omega
    go_enter Tryz.func3, Tryz.ntmps3
    go_wp2_with fail
    go_ret
    exact ⟨rfl, Below.refl _ _⟩

end Go.Proofs.YtcbciaofajhklaaGreatDoor
