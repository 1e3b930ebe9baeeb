/- What the cards of laws of a Sum ask: its three slices as they are read. -/
import Derived.Test.YtdlbgppoochheaaGreatDoorIntA
import Derived.Test.YtdlbgppoochheaaGreatDoorBsA
import Derived.SliceStrings
import Derived.ChangeSlices
import Derived.ChangeAt
namespace Go.Proofs.YtdlbgppoochheaaGreatDoor
open Go.RowKit Rt Go.ChangeShapes Go.WideShapes Go.ChangeAt

theorem three_of {cs : Array Value} (h : cs.size = 3) : ∃ x y z, cs = #[x, y, z] := by
  obtain ⟨l⟩ := cs
  match l, h with
  | [x, y, z], _ => exact ⟨x, y, z, rfl⟩

theorem sum_texts {H : Type} {w : World} {base : Nat} {spare : Nat → Bool} {v : Value} {x : DataW H × List MemPlace}
    (h : ([v] = [Value.slice none 0 0] ∧ x = (.nil, [])) ∨ ∃ (a : Addr) (len cap : Nat) (ss : List ByteArray), [v] = [.slice (some a) len cap] ∧ base ≤ a.block ∧ len ≤ cap ∧ cap ≤ maxLen ∧ ss.length = (if spare a.block then cap else len) ∧
      x = (.slice (strs (ss.take len)) (strs (ss.drop len)), MemPlace.row a ss.length) ∧ (∀ i, i < ss.length → w.cell? (a.add i) = some (.string (ss.getD i ByteArray.empty))) ∧ (∀ s ∈ ss, s.size ≤ maxLen)) :
    ∃ (A : Option Addr) (_ c : Nat) (ss : List ByteArray), v = .slice A ss.length c ∧ ss.length ≤ maxLen ∧ Texts w A ss ∧ ∀ s ∈ ss, s.size ≤ maxLen := by
  rcases h with ⟨h, _⟩ | ⟨a, len, cap, ss, h, _, hl, hm, hz, _, hcell, hws⟩
  · injection h with h _
    exact ⟨none, 0, 0, [], h, Nat.zero_le _, fun j s hj => by simp at hj, fun s hs => by cases hs⟩
  · injection h with h _
    have hge : len ≤ ss.length := by rw [hz]; split <;> omega
    have hlen : (ss.take len).length = len := by rw [List.length_take]; omega
    refine ⟨some a, len, cap, ss.take len, by rw [hlen]; exact h, by omega, ?_, fun s hs => hws s (List.mem_of_mem_take hs)⟩
    intro j s hj
    have hjl : j < len := by have := (List.getElem?_eq_some_iff.1 hj).1; omega
    have hs : ss[j]? = some s := by rw [List.getElem?_take_of_lt hjl] at hj; exact hj
    have hc := hcell j (by omega)
    obtain ⟨g, o, spot⟩ := a
    obtain rfl : spot = none := by simpa [Addr.add] using World.cell?_spot (hcell 0 (by omega))
    refine ⟨g, o, rfl, ?_⟩
    rw [List.getD, hs, WideShapes.add_plain] at hc
    exact hc

theorem sum_ints {H : Type} {w : World} {base : Nat} {spare : Nat → Bool} {v : Value} {x : DataW H × List MemPlace}
    (h : ([v] = [Value.slice none 0 0] ∧ x = (.nil, [])) ∨ ∃ (a : Addr) (len cap : Nat) (zs : List Int), [v] = [.slice (some a) len cap] ∧ base ≤ a.block ∧ len ≤ cap ∧ cap ≤ maxLen ∧ zs.length = (if spare a.block then cap else len) ∧
      x = (.slice (lits .i64 (zs.take len)) (lits .i64 (zs.drop len)), MemPlace.row a zs.length) ∧ (∀ i, i < zs.length → w.cell? (a.add i) = some (.int .i64 (zs.getD i 0))) ∧ (∀ n ∈ zs, (Lit.int .i64 n).wf = true)) :
    ∃ (A : Option Addr) (_ c : Nat) (zs : List Int), v = .slice A zs.length c ∧ (zs.length ≤ maxLen ∧ ∀ z ∈ zs, -9223372036854775808 ≤ z ∧ z ≤ 9223372036854775807) ∧ Ints w A zs := by
  rcases h with ⟨h, _⟩ | ⟨a, len, cap, zs, h, _, hl, hm, hz, _, hcell, hws⟩
  · injection h with h _
    exact ⟨none, 0, 0, [], h, ⟨Nat.zero_le _, fun s hs => by cases hs⟩, fun j s hj => by simp at hj⟩
  · injection h with h _
    have hge : len ≤ zs.length := by rw [hz]; split <;> omega
    have hlen : (zs.take len).length = len := by rw [List.length_take]; omega
    refine ⟨some a, len, cap, zs.take len, by rw [hlen]; exact h, ⟨by omega, fun z hzm => ?_⟩, ?_⟩
    · have := hws z (List.mem_of_mem_take hzm)
      simp [Lit.wf, IntKind.min, IntKind.max, IntKind.bits, IntKind.signed] at this
      omega
    · intro j s hj
      have hjl : j < len := by have := (List.getElem?_eq_some_iff.1 hj).1; omega
      have hs : zs[j]? = some s := by rw [List.getElem?_take_of_lt hjl] at hj; exact hj
      have hc := hcell j (by omega)
      obtain ⟨g, o, spot⟩ := a
      obtain rfl : spot = none := by simpa [Addr.add] using World.cell?_spot (hcell 0 (by omega))
      refine ⟨g, o, rfl, ?_⟩
      rw [List.getD, hs, WideShapes.add_plain] at hc
      exact hc

end Go.Proofs.YtdlbgppoochheaaGreatDoor
