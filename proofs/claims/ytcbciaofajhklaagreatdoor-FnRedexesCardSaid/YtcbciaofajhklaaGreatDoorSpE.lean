/- The model's TermRename and TermBind. -/
import Derived.Test.YtcbciaofajhklaaGreatDoorSpC
import Derived.Test.YtcbciaofajhklaaGreatDoorSwE
namespace Go.Proofs.YtcbciaofajhklaaGreatDoor
open Go.RowKit Rt

theorem name_ne (a : B) (h : isName a = true) : a ≠ [] := by rintro rfl; simp [isName] at h

theorem name_dec (a : B) (h : isName a = true) (i : Nat) (hi : i < 100) : dec i ≠ a := by
  intro e
  have := dec_noName i hi
  rw [e, h] at this
  cases this

theorem loose_text (t : Term) (ho : ok 0 t = true) (hs : size t ≤ 100) : loose (text t) = if size t ≤ 60 then some t else none := by
  have h1 := text_size 0 t ho
  have h2 := dep_size t
  have h3 : parse (text t) = some (ofTerm t) := parse_of _ (wf_ofTerm 0 t ho) (by unfold text at h1; omega) (by omega)
  rw [loose, h3]
  simp only [toTerm_of 0 t ho]

theorem termOf_text (t : Term) (ho : ok 0 t = true) (hs : size t ≤ 100) : termOf (text (sort t)) = if size t ≤ 60 then some (sort t) else none := by
  have h := loose_text (sort t) (by rw [ok_sort]; exact ho) (by rw [size_sort]; exact hs)
  rw [size_sort] at h
  rw [termOf, h]
  by_cases hz : size t ≤ 60
  · simp [hz, sort_sort 0 t ho]
  · simp [hz]

end Go.Proofs.YtcbciaofajhklaaGreatDoor
