/- The program's TermRename and TermBind. -/
import Derived.Test.YtopmkddmllmecaaGreatDoorSwD
namespace Go.Proofs.YtopmkddmllmecaaGreatDoor
open Go.RowKit Rt Go.Lib
open Go.ChangeMaps Go.MapKept Go.Maps Go.WideMaps

/-- What TermRename tells. -/
def renRes (l a b : B) : B × Bool := match termOf l with
  | some t => if isName a = true ∧ isName b = true then (text (sort (swp (lRen a b) 0 t)), true) else ([], false)
  | none => ([], false)

/-- What TermBind tells. -/
def bindRes (l a : B) : B × Bool := match termOf l with
  | some t => if isName a = true ∧ size t + 1 ≤ 60 then (text (sort (.lam (swp (lBind a) 0 t))), true) else ([], false)
  | none => ([], false)

theorem termOf_ok (l : B) (t : Term) (h : termOf l = some t) : ok 0 t = true ∧ size t ≤ 60 := by
  obtain ⟨h1, _, _, h4⟩ := loose_some l t (termOf_some l t h).1
  exact ⟨h1, h4⟩

end Go.Proofs.YtopmkddmllmecaaGreatDoor
