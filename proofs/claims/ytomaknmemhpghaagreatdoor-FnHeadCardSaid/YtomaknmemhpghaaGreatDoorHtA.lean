/- sameTexts and hasText of the laws. -/
import Derived.Test.YtomaknmemhpghaaGreatDoorBsB
import Derived.Test.YtomaknmemhpghaaGreatDoorNmA
namespace Go.Proofs.YtomaknmemhpghaaGreatDoor
open Go.RowKit Rt

theorem Texts.at {w : World} {A : Option Addr} {l : List B} (h : Texts w A (bys l)) (j : Nat) (s : B) (hs : l[j]? = some s) : ∃ g o, A = some ⟨g, o, none⟩ ∧ w.cell? ⟨g, o + j, none⟩ = some (.string ⟨s.toArray⟩) :=
  h j ⟨s.toArray⟩ (by unfold bys; rw [List.getElem?_map, hs]; rfl)

theorem Texts.take {w : World} {A : Option Addr} {l : List B} (h : Texts w A (bys l)) (k : Nat) : Texts w A (bys (l.take k)) := fun j s hs => h j s (by
  unfold bys at hs ⊢
  rw [List.map_take, List.getElem?_take] at hs
  split at hs
  · exact hs
  · cases hs)

theorem texts_after {w w5 : World} {A : Option Addr} {ss : List ByteArray} (h : Texts w A ss) (hb : Below w.drew.heap.size w.drew w5) : Texts w5 A ss := fun j s hs => by
  obtain ⟨g, o, e, hc⟩ := h j s hs
  have hg : g < w.heap.size := World.block_lt_of_cell? w _ hc
  exact ⟨g, o, e, (hb.cell (p := ⟨g, o + j, none⟩) (by simpa using hg)).trans (by simpa using hc)⟩

theorem below_after {w0 w w5 : World} {B : Nat} (h : Below B w0 w) (hB : B ≤ w.heap.size) (hb : Below w.drew.heap.size w.drew w5) : Below B w0 w5 := h.drew.trans (hb.mono hB)

theorem cell_after {w w5 : World} {g o : Nat} {v : Value} (h : w.cell? ⟨g, o, none⟩ = some v) (hb : Below w.drew.heap.size w.drew w5) : w5.cell? ⟨g, o, none⟩ = some v :=
  (hb.cell (p := ⟨g, o, none⟩) (by have : g < w.heap.size := World.block_lt_of_cell? w _ h; simpa using this)).trans (by simpa using h)

set_option maxHeartbeats 1600000 in
set_option maxRecDepth 100000 in
theorem hasText_any (A : Option Addr) (n c : Nat) (l : List B) (s : B) (w : World) (hn : l.length = n) (hl : n ≤ 100000) (hA : Texts w A (bys l)) :
    Calls Tryz.prog 33 #[.slice A n c, .string ⟨s.toArray⟩] w fun e w' => e = .returned (.bool (decide (s ∈ l))) ∧ Below w.heap.size w w' := by
  subst hn
  have H3 := Lib.hid hA
  clear hA
  go_enter Tryz.func33, Tryz.ntmps33
  go_wp2_with fail
  go_loop [5] (fun iv => ∃ k : Nat, k ≤ l.length ∧ iv = .int .i64 k ∧ Hid (s ∉ l.take k)) (fun iv => l.length - (intOf iv).toNat)
  case atStart => exact ⟨0, Nat.zero_le _, rfl, by show s ∉ _; simp⟩
  case round =>
    obtain ⟨k, hk, rfl, hno⟩ := hrel
    by_cases hlt : k < l.length
    · obtain ⟨u, hu⟩ : ∃ u, l[k]? = some u := ⟨_, List.getElem?_eq_getElem hlt⟩
      obtain ⟨g, o, rfl, e0⟩ := H3.out.at k u hu
      by_cases hq : u = s
      · have hq1 : (u == s) = true := by simp [hq]
        have HM : Hid (decide (s ∈ l) = true) := by show _ = _; rw [decide_eq_true_eq, ← hq]; exact List.mem_of_getElem? hu
        clear hq hu
        go_wp2_with fail
        go_ret
        exact ⟨by rw [HM.out]; rfl, Below.refl _ _⟩
      · have hq1 : (u == s) = false := by simpa using hq
        have HN : Hid (s ∉ l.take (k + 1)) := by
          show s ∉ _
          rw [List.take_add_one, hu, List.mem_append]
          rintro (h | h)
          · exact hno.out h
          · simp at h; exact hq h.symm
        clear hq hu
        go_wp2_with fail
        go_round
        case rel => exact ⟨k + 1, by omega, by go_num, HN.out⟩
        case measure => simp [intOf]; omega
    · obtain rfl : k = l.length := by omega
      have HM : Hid (decide (s ∈ l) = false) := by
        show _ = _
        have := hno.out
        rw [List.take_length] at this
        simpa using this
      go_wp2_with fail
      go_ret
      exact ⟨by rw [HM.out]; rfl, Below.refl _ _⟩

end Go.Proofs.YtomaknmemhpghaaGreatDoor
