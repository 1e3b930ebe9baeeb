/- The walk of the law of TermRename. -/
import Derived.Test.YtggbccmhpnfedaaGreatDoorSpE
namespace Go.Proofs.YtggbccmhpnfedaaGreatDoor
open Go.RowKit Rt Go.Lib

theorem bytes_eq (s : ByteArray) : ∃ a : B, s = ⟨a.toArray⟩ := ⟨s.data.toList, by cases s; simp⟩

end Go.Proofs.YtggbccmhpnfedaaGreatDoor
