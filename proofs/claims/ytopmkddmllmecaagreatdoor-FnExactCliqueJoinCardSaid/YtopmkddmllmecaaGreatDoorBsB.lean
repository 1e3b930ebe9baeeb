/- eqStringS of the laws, at equal lists. -/
import Derived.Test.YtopmkddmllmecaaGreatDoorBsA
namespace Go.Proofs.YtopmkddmllmecaaGreatDoor
open Go.RowKit Rt

theorem Texts.below {w w' : World} {A : Option Addr} {ss : List ByteArray} (h : Texts w A ss) (hb : Below w.heap.size w w') : Texts w' A ss := fun j s hs => by
  obtain ⟨g, o, e, hc⟩ := h j s hs
  exact ⟨g, o, e, (hb.cell (p := ⟨g, o + j, none⟩) (World.block_lt_of_cell? w _ hc)).trans hc⟩

theorem Texts.own {w : World} {g c B : Nat} {ss : List ByteArray} (h : w.ownsRow B 9 1 (.slice (some ⟨g, 0, none⟩) ss.length c) ss.length (strv ss)) : Texts w (some ⟨g, 0, none⟩) ss := fun j s hs => by
  have hj : j < ss.length := (List.getElem?_eq_some_iff.1 hs).1
  refine ⟨g, 0, rfl, ?_⟩
  rw [Nat.zero_add, h.cellAt j (by omega)]
  unfold strv
  rw [List.getElem?_map, hs]; rfl

set_option maxHeartbeats 1600000 in
set_option maxRecDepth 100000 in
theorem eqStringS_same (A C : Option Addr) (c d : Nat) (ss : List ByteArray) (w : World) (hn : ss.length ≤ maxLen) (hA : Texts w A ss) (hC : Texts w C ss) :
    Calls Tryz.prog 29 #[.slice A ss.length c, .slice C ss.length d] w fun e w' => e = .returned (.bool true) ∧ Below w.heap.size w w' := by
  unfold maxLen at hn
  have HA := Lib.hid hA
  have HC := Lib.hid hC
  clear hA hC
  go_enter Tryz.func29, Tryz.ntmps29
  go_wp2_with fail
  go_loopw [5] (fun iv wr => ∃ k : Nat, k ≤ ss.length ∧ iv = .int .i64 k ∧ Hid (Below w.heap.size w wr)) (fun iv _ => ss.length - (intOf iv).toNat)
  case atStart => exact ⟨0, Nat.zero_le _, rfl, Below.refl _ _⟩
  case round =>
    obtain ⟨k, hk, rfl, hbel⟩ := hrel
    by_cases hlt : k < ss.length
    · obtain ⟨s, hsk⟩ : ∃ s, ss[k]? = some s := ⟨_, List.getElem?_eq_getElem hlt⟩
      obtain ⟨g, o, rfl, e0⟩ := (HA.out.below hbel.out) k s hsk
      obtain ⟨g', o', rfl, e1⟩ := (HC.out.below hbel.out) k s hsk
      have hq1 : (s.toList == s.toList) = true := by simp
      have hq2 : (s.toList != s.toList) = false := by simp
      clear hsk
      go_wp2_with fail
      go_region
      all_goals
        go_wp2_with fail
        go_roundw
        case rel => exact ⟨k + 1, by omega, by go_num, hbel.out.drew⟩
        case measure => simp [intOf]; omega
    · obtain rfl : k = ss.length := by omega
      go_wp2_with fail
      go_ret
      exact ⟨rfl, hbel.out⟩

end Go.Proofs.YtopmkddmllmecaaGreatDoor
