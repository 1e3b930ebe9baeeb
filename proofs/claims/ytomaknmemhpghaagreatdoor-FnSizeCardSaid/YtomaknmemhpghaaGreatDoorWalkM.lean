/- The walk of the law FnSize. -/
import Derived.Test.YtomaknmemhpghaaGreatDoorDrE
import Derived.Test.YtomaknmemhpghaaGreatDoorFnA
import Derived.Test.YtomaknmemhpghaaGreatDoorKdC
import Derived.Test.YtomaknmemhpghaaGreatDoorSpecK
namespace Go.Proofs.YtomaknmemhpghaaGreatDoor
open Go.RowKit Rt Go.Lib

set_option maxHeartbeats 3200000 in
set_option maxRecDepth 100000 in
theorem walkFnSize (A : Option Addr) (n c : Nat) (w : World) (hn : n ≤ maxLen) (hnc : n ≤ c) (hB : Bytes w A n) :
    Calls Tryz.prog 5 #[.slice A n c] w fun e w' => e = .returned (.bool true) ∧ Below w.heap.size w w' := by
  have HD := Lib.hid (drawTermSize_any l1Bag_any A n c w hn hnc hB)
  unfold maxLen at hn
  clear hB
  by_cases h1 : n ≤ 1048576
  · have d0 : decide ((n : Int) > 1048576) = false := by simp; omega
    go_enter Tryz.func5, Tryz.ntmps5
    go_wp2_with fail
    refine HD.out.mono ?_
    rintro e w1 ⟨a, rfl, ha, hb1⟩
    have HB1 := Lib.hid hb1
    clear hb1
    have HI : Hid (∀ W, Calls Tryz.prog 19 #[.string ⟨a.toArray⟩] W fun e w' => e = .returned (.int .i64 (sizeRes a)) ∧ Below W.heap.size W w') := fun W => implTermSize ⟨a.toArray⟩ (by simp [ByteArray.size, maxLen]; omega) W
    have HS : Hid (∀ W, Calls Tryz.prog 23 #[.string ⟨a.toArray⟩] W fun e w' => e = .returned (.int .i64 (sizeRes a)) ∧ Below W.heap.size W w') := fun W => specTermSize l1Bag_any ⟨a.toArray⟩ (by simp [ByteArray.size, maxLen]; omega) W
    have HK : Hid (∀ W, Calls Tryz.prog 24 #[.string ⟨a.toArray⟩] W (KidsPost W (kidsRes a))) := fun W => implTermKids ⟨a.toArray⟩ (by simp [ByteArray.size, maxLen]; omega) W
    cases ht : termOf a with
    | none =>
      have hz : sizeRes a = -1 := by unfold sizeRes; rw [ht]
      rw [hz] at HI HS
      clear HK hz ht
      go_wp2_with fail
      refine (HI.out w1).mono ?_
      rintro e w2 ⟨rfl, hb2⟩
      have HB2 := Lib.hid (HB1.out.trans (hb2.mono HB1.out.size))
      clear hb2
      go_wp2_with fail
      refine (HS.out w2).mono ?_
      rintro e w3 ⟨rfl, hb3⟩
      have HB3 := Lib.hid (HB2.out.trans (hb3.mono HB2.out.size))
      clear hb3
      go_wp2_with fail
      go_ret
      exact ⟨rfl, HB3.out⟩
    | some t =>
      rw [sizeRes_valid a t ht] at HI HS
      obtain ⟨k1, k2⟩ := kids_sizes a t ht
      have k3 := kidsRes_len a
      have k4 := kids_short a
      have k5 := (termOf_ok a t ht).2
      have k6 := kids_le a t ht
      obtain ⟨r, hr⟩ : ∃ r, r = kidsRes a := ⟨_, rfl⟩
      rw [← hr] at HK k1 k2 k3 k4 k6
      obtain ⟨ss, bo⟩ := r
      obtain rfl : bo = true := k1
      have k2' : kidSizes ss ss.length = size t := k2
      have k3' : ss.length ≤ 1000000 := k3
      have K4 : Hid (∀ s ∈ ss, s.size ≤ 4000) := k4
      have K6 : Hid (∀ k, k ≤ ss.length → 0 ≤ kidSizes ss k ∧ kidSizes ss k ≤ 1000000000) := k6
      have KS : Hid (∀ k s, 1 ≤ k → ss[k]? = some s → kidSizes ss (k + 1) = kidSizes ss k + sizeRes s.data.toList) := kidSizes_succ ss
      have K0 : Hid (kidSizes ss 1 = 1) := kidSizes_one ss
      have K2 : Hid (kidSizes ss ss.length = size t) := k2'
      have KN : Hid (ss.length = 0 → kidSizes ss 1 = size t) := fun h => by rw [← k2', h]; exact kidSizes_nil ss (List.eq_nil_of_length_eq_zero h)
      have HZ : Hid (∀ W (s : ByteArray), s ∈ ss → Calls Tryz.prog 19 #[.string s] W fun e w' => e = .returned (.int .i64 (sizeRes s.data.toList)) ∧ Below W.heap.size W w') := fun W s hs => implTermSize s (by have := k4 s hs; unfold maxLen; omega) W
      have d9 : decide ((size t : Int) < 0) = false := by rw [decide_eq_false_iff_not]; omega
      have hq1 : ((size t : Int) == (size t : Int)) = true := by simp
      have hq2 : ((size t : Int) != (size t : Int)) = false := by simp
      generalize size t = N at *
      clear hr ht k2 k3 k4 k6
      go_wp2_with fail
      refine (HI.out w1).mono ?_
      rintro e w2 ⟨rfl, hb2⟩
      have HB2 := Lib.hid (HB1.out.trans (hb2.mono HB1.out.size))
      clear hb2
      go_wp2_with fail
      refine (HS.out w2).mono ?_
      rintro e w3 ⟨rfl, hb3⟩
      have HB3 := Lib.hid (HB2.out.trans (hb3.mono HB2.out.size))
      clear hb3
      go_wp2_with fail
      refine (HK.out w3).mono ?_
      rintro e w4 ⟨hb4, A4, c4, rfl, hown4⟩
      have HB4 := Lib.hid (HB3.out.trans (hb4.mono HB3.out.size))
      have HT4 : Hid (Texts w4 A4 ss) := Texts.row hown4
      clear hb4 hown4
      go_wp2_with fail
      go_loopw [8, 9] (fun sv iv wr => ∃ k : Nat, 1 ≤ k ∧ (k ≤ ss.length ∨ k = 1) ∧ iv = .int .i64 k ∧ sv = .int .i64 (kidSizes ss k) ∧ Hid (Texts wr A4 ss) ∧ Hid (Below w.heap.size w wr)) (fun _ iv _ => ss.length - (intOf iv).toNat)
      case atStart => exact ⟨1, Nat.le_refl _, .inr rfl, rfl, by rw [K0.out], HT4.out, HB4.out⟩
      case round =>
        obtain ⟨k, hk1, hk, rfl, rfl, htx, hbel⟩ := hrel
        by_cases hlt : k < ss.length
        · obtain ⟨s, hs⟩ : ∃ s, ss[k]? = some s := ⟨_, List.getElem?_eq_getElem hlt⟩
          obtain ⟨g, o, rfl, e0⟩ := htx.out k s hs
          have b1 := K6.out k (by omega)
          have b2 := K6.out (k + 1) (by omega)
          have HSX := Lib.hid (KS.out k s hk1 hs)
          have b3 := HSX.out
          have HZS := Lib.hid (HZ.out wr s (List.mem_of_getElem? hs))
          clear hs
          generalize sizeRes s.data.toList = z at HSX HZS b3
          rw [HSX.out] at b2
          clear b3
          generalize kidSizes ss k = y at *
          go_wp2_with fail
          refine HZS.out.mono ?_
          rintro e w5 ⟨rfl, hb5⟩
          have HB5 := Lib.hid (hbel.out.trans (hb5.mono hbel.out.size))
          have HT5 := Lib.hid (htx.out.below hb5)
          clear hb5
          go_wp2_with fail
          go_roundw
          case rel => exact ⟨k + 1, by omega, by omega, by go_num, by rw [HSX.out], HT5.out, HB5.out⟩
          case measure => simp [intOf]; omega
        · have hfin : kidSizes ss k = (N : Int) := by
            rcases hk with hk | hk
            · have : k = ss.length := by omega
              rw [this]; exact K2.out
            · subst hk
              rcases Nat.eq_zero_or_pos ss.length with h0 | h0
              · exact KN.out h0
              · have : ss.length = 1 := by omega
                rw [← this]; exact K2.out
          rw [hfin]
          go_wp2_with fail
          go_ret
          exact ⟨rfl, hbel.out⟩
  · have d0 : decide ((n : Int) > 1048576) = true := by simp; omega
    go_enter Tryz.func5, Tryz.ntmps5
    go_wp2_with fail
    go_ret
    exact ⟨rfl, Below.refl _ _⟩

end Go.Proofs.YtomaknmemhpghaaGreatDoor
