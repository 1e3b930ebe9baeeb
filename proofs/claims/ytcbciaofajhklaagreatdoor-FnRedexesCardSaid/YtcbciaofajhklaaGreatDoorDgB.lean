/- The program's TermDegree. -/
import Derived.Test.YtcbciaofajhklaaGreatDoorDgA
import Derived.Test.YtcbciaofajhklaaGreatDoorSwE
namespace Go.Proofs.YtcbciaofajhklaaGreatDoor
open Go.RowKit Rt Go.Lib
open Go.ChangeMaps Go.MapKept Go.Maps Go.WideMaps

/-- What TermDegree tells. -/
def degRes (l a : B) : Int := match termOf l with
  | some t => if isName a = true then ((names t).count a : Int) else -1
  | none => -1

end Go.Proofs.YtcbciaofajhklaaGreatDoor
