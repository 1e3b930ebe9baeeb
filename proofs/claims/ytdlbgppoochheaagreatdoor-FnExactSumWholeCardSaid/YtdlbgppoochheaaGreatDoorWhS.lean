/- The model's SumWhole. -/
import Derived.Test.YtdlbgppoochheaaGreatDoorWhI
import Derived.Test.YtdlbgppoochheaaGreatDoorSpV
namespace Go.Proofs.YtdlbgppoochheaaGreatDoor
open Go.RowKit Rt Go.Lib

set_option maxHeartbeats 1600000 in
set_option maxRecDepth 100000 in
theorem specSumWhole (A B C : Option Addr) (ca cb cc : Nat) (ss : List ByteArray) (ts bs : List Int) (w : World) (hs : ∀ s ∈ ss, s.size ≤ maxLen) (hl1 : ss.length ≤ maxLen) (hl2 : ts.length ≤ maxLen) (hl3 : bs.length ≤ maxLen)
    (hA : Texts w A ss) (hB : Ints w B ts) (hC : Ints w C bs) :
    Calls Tryz.prog 13 #[.agg #[.slice A ss.length ca, .slice B ts.length cb, .slice C bs.length cc]] w fun e w' => e = .returned (.bool (sumOk ss ts bs && allOne bs)) ∧ Below w.heap.size w w' := by
  have hb0 : Below w.heap.size w (w.alloc (.cells #[.slice A ss.length ca, .slice B ts.length cb, .slice C bs.length cc] 28)) := by go_grown
  have HB0 := Lib.hid hb0
  have HV := Lib.hid (specSumValid A B C ca cb cc ss ts bs _ hs hl1 hl2 hl3 (hA.below hb0) (hB.below hb0) (hC.below hb0))
  have HY : Hid ((∀ i b, i < bs.length → bs[i]? = some b → b = 1) → allOne bs = true) := allOne_yes
  have HN : Hid (∀ (k : Nat) (b : Int), bs[k]? = some b → b ≠ 1 → allOne bs = false) := fun k b h hb => allOne_no h hb
  have HC := Lib.hid (hC.below hb0)
  unfold maxLen at hl3
  generalize allOne bs = y at HY HN ⊢
  generalize sumOk ss ts bs = x at HV ⊢
  clear hA hB hC hb0 hs
  go_enter Tryz.func13, Tryz.ntmps13
  go_wp2_with fail
  go_loop [3] (fun iv => ∃ k : Nat, k ≤ bs.length ∧ iv = .int .i64 k ∧ Hid (∀ i b, i < k → bs[i]? = some b → b = 1)) (fun iv => bs.length - (intOf iv).toNat)
  case atStart => exact ⟨0, Nat.zero_le _, rfl, fun i b hi => by omega⟩
  case round =>
    obtain ⟨k, hk, rfl, hone⟩ := hrel
    by_cases hlt : k < bs.length
    · obtain ⟨b, hb⟩ : ∃ b, bs[k]? = some b := ⟨_, List.getElem?_eq_getElem hlt⟩
      obtain ⟨g, o, rfl, e1⟩ := HC.out k b hb
      have HB := Lib.hid hb
      clear hb
      by_cases h1 : b = 1
      · have d1 : (b != 1) = false := by simpa using h1
        have H1 := Lib.hid h1
        clear h1
        go_wp2_with fail
        go_round
        case rel =>
          refine ⟨k + 1, by omega, by go_num, fun i c hi hc => ?_⟩
          by_cases e : i = k
          · subst e
            have := HB.out
            rw [hc] at this
            injection this with this
            rw [this]; exact H1.out
          · exact hone.out i c (by omega) hc
        case measure => simp [intOf]; omega
      · have d1 : (b != 1) = true := by simpa using h1
        have HX : Hid (y = false) := HN.out k b HB.out h1
        go_wp2_with fail
        go_ret
        exact ⟨by rw [HX.out]; simp, HB0.out⟩
    · obtain rfl : k = bs.length := by omega
      have HX : Hid (y = true) := HY.out hone.out
      go_wp2_with fail
      refine HV.out.mono ?_
      rintro e w1 ⟨rfl, hb1⟩
      have HB1 := Lib.hid (HB0.out.trans (hb1.mono HB0.out.size))
      clear hb1
      go_wp2_with fail
      go_ret
      exact ⟨by rw [HX.out]; simp, HB1.out⟩

end Go.Proofs.YtdlbgppoochheaaGreatDoor
