/- The program's SumValid. -/
import Derived.Test.YtopmkddmllmecaaGreatDoorSumR
import Derived.Test.YtopmkddmllmecaaGreatDoorBsB
namespace Go.Proofs.YtopmkddmllmecaaGreatDoor
open Go.RowKit Rt Go.Lib

theorem three_grown {w0 W W2 : World} {g m : Nat} {x1 x2 x3 : Value} (h : W.cell? ⟨g, 0, none⟩ = some x1 ∧ W.cell? ⟨g, 1, none⟩ = some x2 ∧ W.cell? ⟨g, 2, none⟩ = some x3 ∧ Below w0.heap.size w0 W) (hg : W.grownBy W2 (some m)) (h1 : w0.heap.size ≤ m) (h2 : g ≠ m) : W2.cell? ⟨g, 0, none⟩ = some x1 ∧ W2.cell? ⟨g, 1, none⟩ = some x2 ∧ W2.cell? ⟨g, 2, none⟩ = some x3 ∧ Below w0.heap.size w0 W2 := by
  obtain ⟨k1, k2, k3, k8⟩ := h
  have hs := k8.size
  refine ⟨grown_cell hg h2 k1, grown_cell hg h2 k2, grown_cell hg h2 k3, ⟨hg.os.trans k8.os, hg.tape.trans k8.tape, hg.output.trans k8.output, Nat.le_trans hs hg.size, fun q hq => ?_⟩⟩
  rw [hg.block q (by omega) (by intro e; injection e with e; omega)]
  exact k8.block q hq

/-- What newTermPool gives. -/
def NewPost (W : World) (e : Ending) (w' : World) : Prop := ∃ p m : Nat, e = .returned (.pointer (some ⟨p, 0, none⟩)) ∧ Below W.heap.size W w' ∧ W.heap.size ≤ m ∧ Pool (fun _ => False) w' p m 0 (.map [])

theorem newPool (W : World) : Calls Tryz.prog 52 #[] W (NewPost W) :=
  (newTermPool_any W).mono fun _ _ ⟨he, hb, _, hP⟩ => ⟨_, _, he, hb, Nat.le_refl _, hP⟩

theorem SumPost.shape {F : Nat → Prop} {w w' : World} {p m n : Nat} {ss : List ByteArray} {ts bs : List Int} {e : Ending} (h : SumPost F w p m n ss ts bs e w') : ∃ o, e = .returned (.tuple #[.map o, .bool (sumOk ss ts bs)]) := by
  obtain ⟨_, h⟩ := h
  unfold SumRes at h
  split at h
  · rename_i hx
    obtain ⟨mm, D, n', Dm, he, _⟩ := h
    exact ⟨some mm, by rw [he, hx]⟩
  · rename_i hx
    exact ⟨none, by rw [h, hx]⟩

end Go.Proofs.YtopmkddmllmecaaGreatDoor
