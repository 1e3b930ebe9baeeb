/- The model's sum that is made (l2Work): l2New and l2Done. -/
import Derived.Test.YtopmkddmllmecaaGreatDoorOwA
import Derived.Test.YtopmkddmllmecaaGreatDoorIntA
import Derived.Test.YtopmkddmllmecaaGreatDoorSpecI
import Derived.Test.YtopmkddmllmecaaGreatDoorSpecK
namespace Go.Proofs.YtopmkddmllmecaaGreatDoor
open Go.RowKit Rt Go.Lib

/-- The texts of a row. -/
def slv (l : List B) : List Value := l.map fun s => .string ⟨s.toArray⟩

/-- A sum that is made: its box and its three rows, all of them the call's own. -/
def Work (w : World) (Bb gw : Nat) (l : List B) (ts bs : List Int) (bad : Bool) : Prop :=
  ∃ g0 c0 g1 c1 g2 c2, Blk w gw 101 #[.slice (some ⟨g0, 0, none⟩) l.length c0, .slice (some ⟨g1, 0, none⟩) ts.length c1, .slice (some ⟨g2, 0, none⟩) bs.length c2, .bool bad] ∧ Bb ≤ gw ∧ g0 ≠ gw ∧ g1 ≠ gw ∧ g2 ≠ gw ∧
    w.ownsRow Bb 9 1 (.slice (some ⟨g0, 0, none⟩) l.length c0) l.length (slv l) ∧ w.ownsRow Bb 3 1 (.slice (some ⟨g1, 0, none⟩) ts.length c1) ts.length (intv ts) ∧ w.ownsRow Bb 3 1 (.slice (some ⟨g2, 0, none⟩) bs.length c2) bs.length (intv bs)

theorem blk_four {w : World} {g : Nat} {t : TypeId} {x y z u : Value} (h : Blk w g t #[x, y, z, u]) : w.cell? ⟨g, 0, none⟩ = some x ∧ w.cell? ⟨g, 1, none⟩ = some y ∧ w.cell? ⟨g, 2, none⟩ = some z ∧ w.cell? ⟨g, 3, none⟩ = some u ∧ w.frozen? ⟨g, 0, none⟩ = false ∧ w.frozen? ⟨g, 1, none⟩ = false ∧ w.frozen? ⟨g, 2, none⟩ = false ∧ w.frozen? ⟨g, 3, none⟩ = false :=
  ⟨(h.cell 0).trans rfl, (h.cell 1).trans rfl, (h.cell 2).trans rfl, (h.cell 3).trans rfl, h.frozen 0, h.frozen 1, h.frozen 2, h.frozen 3⟩

/-- What l2New gives. -/
def WorkNew (w : World) (e : Ending) (w' : World) : Prop :=
  e = .returned (.pointer (some ⟨w.heap.size + 3, 0, none⟩)) ∧ Below w.heap.size w w' ∧ w'.heap.size = w.heap.size + 4 ∧ Work w' w.heap.size (w.heap.size + 3) [] [] [] false

theorem new_work (w : World) : Work ((((w.alloc (.cells #[] 9)).alloc (.cells #[] 3)).alloc (.cells #[] 3)).alloc (.cells #[.slice (some ⟨w.heap.size, 0, none⟩) 0 0, .slice (some ⟨w.heap.size + 1, 0, none⟩) 0 0, .slice (some ⟨w.heap.size + 2, 0, none⟩) 0 0, .bool false] 101)) w.heap.size (w.heap.size + 3) [] [] [] false := by
  refine ⟨w.heap.size, 0, w.heap.size + 1, 0, w.heap.size + 2, 0, ?_, by omega, by omega, by omega, by omega, ?_, ?_, ?_⟩
  · have := Blk.new (((w.alloc (.cells #[] 9)).alloc (.cells #[] 3)).alloc (.cells #[] 3)) 101 #[.slice (some ⟨w.heap.size, 0, none⟩) 0 0, .slice (some ⟨w.heap.size + 1, 0, none⟩) 0 0, .slice (some ⟨w.heap.size + 2, 0, none⟩) 0 0, .bool false]
    simpa using this
  · exact own_of_blk ((((Blk.new w 9 #[]).alloc _).alloc _).alloc _) (Nat.le_refl _) rfl (by decide) rfl
  · have h := ((Blk.new (w.alloc (.cells #[] 9)) 3 #[]).alloc (.cells #[] 3)).alloc (.cells #[.slice (some ⟨w.heap.size, 0, none⟩) 0 0, .slice (some ⟨w.heap.size + 1, 0, none⟩) 0 0, .slice (some ⟨w.heap.size + 2, 0, none⟩) 0 0, .bool false] 101)
    rw [show (w.alloc (.cells #[] 9)).heap.size = w.heap.size + 1 by simp] at h
    exact own_of_blk h (by omega) rfl (by decide) rfl
  · have h := (Blk.new ((w.alloc (.cells #[] 9)).alloc (.cells #[] 3)) 3 #[]).alloc (.cells #[.slice (some ⟨w.heap.size, 0, none⟩) 0 0, .slice (some ⟨w.heap.size + 1, 0, none⟩) 0 0, .slice (some ⟨w.heap.size + 2, 0, none⟩) 0 0, .bool false] 101)
    rw [show ((w.alloc (.cells #[] 9)).alloc (.cells #[] 3)).heap.size = w.heap.size + 2 by simp] at h
    exact own_of_blk h (by omega) rfl (by decide) rfl

set_option maxHeartbeats 1600000 in
set_option maxRecDepth 100000 in
theorem l2New_any (w : World) : Calls Tryz.prog 35 #[] w (WorkNew w) := by
  have HW := Lib.hid (new_work w)
  go_enter Tryz.func35, Tryz.ntmps35
  go_wp2_with fail
  go_ret
  exact ⟨rfl, by go_grown, by simp, HW.out⟩

/-- What l2Done gives of a sum that did not fail. -/
def DonePost (w : World) (Bb : Nat) (l : List B) (ts bs : List Int) (e : Ending) (w' : World) : Prop :=
  Below w.heap.size w w' ∧ ∃ v0 v1 v2, e = .returned (.tuple #[.agg #[v0, v1, v2], .bool true]) ∧ w'.ownsRow Bb 9 1 v0 l.length (slv l) ∧ w'.ownsRow Bb 3 1 v1 ts.length (intv ts) ∧ w'.ownsRow Bb 3 1 v2 bs.length (intv bs)

set_option maxHeartbeats 1600000 in
set_option maxRecDepth 100000 in
theorem l2Done_any (w : World) (Bb gw : Nat) (l : List B) (ts bs : List Int) (h : Work w Bb gw l ts bs false) : Calls Tryz.prog 37 #[.pointer (some ⟨gw, 0, none⟩)] w (DonePost w Bb l ts bs) := by
  obtain ⟨g0, c0, g1, c1, g2, c2, hb, hB, n0, n1, n2, h0, h1, h2⟩ := h
  have HB := Lib.hid hb
  have hlt := hb.lt
  obtain ⟨q0, q1, q2, q3, -, -, -, -⟩ := blk_four (hb.alloc (.cells #[.slice none 0 0, .slice none 0 0, .slice none 0 0] 25))
  have HBA : Hid (Below w.heap.size w (w.alloc (.cells #[.slice (some ⟨g0, 0, none⟩) l.length c0, .slice (some ⟨g1, 0, none⟩) ts.length c1, .slice (some ⟨g2, 0, none⟩) bs.length c2] 25))) := (Below.refl w.heap.size w).alloc (Nat.le_refl _) _
  have HO := Lib.hid (And.intro h0 (And.intro h1 h2))
  clear hb h0 h1 h2 n0 n1 n2
  go_enter Tryz.func37, Tryz.ntmps37
  go_wp2_with fail
  refine bodyPost_ret (v := .tuple #[.agg #[.slice (some ⟨g0, 0, none⟩) l.length c0, .slice (some ⟨g1, 0, none⟩) ts.length c1, .slice (some ⟨g2, 0, none⟩) bs.length c2], .bool true]) ?_ rfl ?_
  · simp [results, Tryz.results37, go_sem]
  · exact ⟨HBA.out, _, _, _, rfl, own_any HO.out.1 HBA.out, own_any HO.out.2.1 HBA.out, own_any HO.out.2.2 HBA.out⟩

end Go.Proofs.YtopmkddmllmecaaGreatDoor
