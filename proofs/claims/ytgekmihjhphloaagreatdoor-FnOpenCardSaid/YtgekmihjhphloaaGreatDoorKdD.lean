/- What both sides of TermKids give to the law. -/
import Derived.Test.YtgekmihjhphloaaGreatDoorKdC
namespace Go.Proofs.YtgekmihjhphloaaGreatDoor
open Go.RowKit Rt Go.Lib

theorem Texts.row {w : World} {c B : Nat} {A : Option Addr} {ss : List ByteArray} (h : w.ownsRow B 9 1 (.slice A ss.length c) ss.length (strv ss)) : Texts w A ss := by
  intro j s hs
  obtain ⟨g, rfl, -⟩ := own_cells h (by have := (List.getElem?_eq_some_iff.1 hs).1; omega)
  exact Texts.own h j s hs

theorem Texts.marks {w : World} {c B n k : Nat} {A : Option Addr} (h : w.ownsRow B 9 1 (.slice A n c) n (strv (marks n k))) : Texts w A (marks n k) := by
  have h' : w.ownsRow B 9 1 (.slice A (Go.Proofs.YtgekmihjhphloaaGreatDoor.marks n k).length c) (Go.Proofs.YtgekmihjhphloaaGreatDoor.marks n k).length (strv (Go.Proofs.YtgekmihjhphloaaGreatDoor.marks n k)) := by rw [marks_length]; exact h
  exact Texts.row h'

theorem kidsRes_len (l : B) : (kidsRes l).1.length ≤ 1000000 := by
  unfold kidsRes
  cases h : termOf l with
  | none => simp
  | some T =>
    obtain ⟨h1, h2⟩ := termOf_ok l T h
    cases T with
    | nm a => simp
    | ix i => simp
    | lam t => simp
    | app t b =>
      have := bag_short b
      rw [Rt.size] at h2
      simp
      omega

end Go.Proofs.YtgekmihjhphloaaGreatDoor
