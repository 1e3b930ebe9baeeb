/- The model's l1Swap at the atoms: rename, bind, open. -/
import Derived.Test.YtcbciaofajhklaaGreatDoorSpB
import Derived.Deep.RegionWith
import Derived.StillTailTactics
namespace Go.Proofs.YtcbciaofajhklaaGreatDoor
open Go.RowKit Rt

theorem blk_drew {w : World} {g : Nat} {t : TypeId} {cs : Array Value} (h : Blk w g t cs) : Blk w.drew g t cs := h

/-- What the walk of l1Swap at an atom needs to know of its texts. -/
theorem empty_facts (s : ByteArray) (h : s.data.toList ≠ []) : (s.toList == []) = false ∧ (s.toList != []) = true ∧ s.toList.isEmpty = false ∧ (!s.toList.isEmpty) = true := by
  rw [ByteArray.toList_eq]
  generalize s.data.toList = l at *
  cases l with
  | nil => exact absurd rfl h
  | cons c l => simp

end Go.Proofs.YtcbciaofajhklaaGreatDoor
