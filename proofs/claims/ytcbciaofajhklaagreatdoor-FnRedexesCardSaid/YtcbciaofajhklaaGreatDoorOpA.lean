/- The program's TermOpen. -/
import Derived.Test.YtcbciaofajhklaaGreatDoorDgB
namespace Go.Proofs.YtcbciaofajhklaaGreatDoor
open Go.RowKit Rt Go.Lib
open Go.ChangeMaps Go.MapKept Go.Maps Go.WideMaps

/-- What TermOpen tells. -/
def openRes (l a : B) : B × Bool := match termOf l with
  | some (.lam t) => if isName a = true ∧ (names t).count a = 0 then (text (sort (swp (lOpen a) 0 t)), true) else ([], false)
  | _ => ([], false)

theorem kind_lam (t : Term) (h : kindOf t = 2) : ∃ u, t = .lam u := by
  cases t with
  | lam u => exact ⟨u, rfl⟩
  | nm s => simp [kindOf] at h
  | ix n => simp [kindOf] at h
  | app t b => simp [kindOf] at h

end Go.Proofs.YtcbciaofajhklaaGreatDoor
