/- The walk of the model's l1Swap. -/
import Derived.Test.YtcbciaofajhklaaGreatDoorSpA
namespace Go.Proofs.YtcbciaofajhklaaGreatDoor
open Go.RowKit Rt

/-- What holds at the head of l1Swap's loop. -/
structure SwRel (F : Nat → Prop) (L : Nat → Term → Term) (K B B2 : Nat) (w2 : World) (l : List Term) (wr : World) (k g d : Nat) (xs : List Value) : Prop where
  le : k ≤ l.length
  own : wr.ownsRow B2 51 2 (.slice (some ⟨g, 0, none⟩) k d) k xs
  kd : k ≤ d
  dm : d ≤ maxLen
  gB : B2 ≤ g
  gS : g < wr.heap.size
  rep : RepFF (fun q => ((F q ∧ q < B) ∨ B2 ≤ q) ∧ q ≠ g) wr (ofTerms (swps L K (l.take k))) xs
  below : Below B2 w2 wr

end Go.Proofs.YtcbciaofajhklaaGreatDoor
