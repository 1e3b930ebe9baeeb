/- The model's l2Put: rows that get one more in their midst. -/
import Derived.Test.YtopmkddmllmecaaGreatDoorPuA
import Derived.Test.YtopmkddmllmecaaGreatDoorPopA
import Derived.Test.YtopmkddmllmecaaGreatDoorSumB
import Derived.Deep.DeepCutAuto
import Derived.Deep.RegionHeld3
set_option linter.unusedSimpArgs false
set_option linter.unusedVariables false
namespace Go.Proofs.YtopmkddmllmecaaGreatDoor
open Go.RowKit Rt Go.Lib

theorem slv_one (l : List B) (u : Value) (h : u ∈ slv l) : u.oneCell' = true := by
  unfold slv at h
  obtain ⟨y, _, rfl⟩ := List.mem_map.1 h
  rfl
theorem intv_one (l : List Int) (u : Value) (h : u ∈ intv l) : u.oneCell' = true := by
  unfold intv at h
  obtain ⟨y, _, rfl⟩ := List.mem_map.1 h
  rfl

theorem own_cap4 {w : World} {Bb g c n : Nat} {e : TypeId} {xs : List Value} (h : w.ownsRow Bb e 1 (.slice (some ⟨g, 0, none⟩) n c) n xs) : n ≤ c ∧ c ≤ maxLen := by
  rcases h.2 with ⟨h', _⟩ | ⟨g', cap', cur, h', _, _, hnc, hcm, _⟩
  · simp at h'
  · injection h' with _ _ e
    subst e
    exact ⟨hnc, hcm⟩

theorem own_beside {w w' : World} {Bb g c n q : Nat} {e : TypeId} {xs : List Value} (h : w.ownsRow Bb e 1 (.slice (some ⟨g, 0, none⟩) n c) n xs) (hg : w.grownBy w' (some q)) (hne : g ≠ q) : w'.ownsRow Bb e 1 (.slice (some ⟨g, 0, none⟩) n c) n xs :=
  h.kept hg (.inr (by simp only [Value.ownBlock]; intro e; injection e with e; exact hne e))

theorem grown_cell4 {w : World} {q i : Nat} {x : Value} : w.grownBy (w.setCell ⟨q, i, none⟩ x) (some q) :=
  ⟨rfl, rfl, rfl, by simp, fun b _ hne => Below.heap_setCell _ _ _ b (fun e => hne (by rw [e]))⟩

theorem blk_drewF {w : World} {g : Nat} {t : TypeId} {cs : Array Value} (h : Blk w g t cs) : Blk w.drew g t cs := h

theorem Work.below {w w' : World} {Bb gw : Nat} {l : List B} {ts bs : List Int} {bad : Bool} (h : Work w Bb gw l ts bs bad) (hb : Below w.heap.size w w') : Work w' Bb gw l ts bs bad := by
  obtain ⟨g0, c0, g1, c1, g2, c2, hb0, hB, n0, n1, n2, h0, h1, h2⟩ := h
  exact ⟨g0, c0, g1, c1, g2, c2, hb0.below hb hb0.lt, hB, n0, n1, n2, own_any h0 hb, own_any h1 hb, own_any h2 hb⟩

theorem Work.bad {w : World} {Bb gw : Nat} {l : List B} {ts bs : List Int} {bad x : Bool} (h : Work w Bb gw l ts bs bad) : Work (w.setCell ⟨gw, 3, none⟩ (.bool x)) Bb gw l ts bs x := by
  obtain ⟨g0, c0, g1, c1, g2, c2, hb0, hB, n0, n1, n2, h0, h1, h2⟩ := h
  have hX := hb0.set_ 3 (.bool x)
  exact ⟨g0, c0, g1, c1, g2, c2, by simpa using hX, hB, n0, n1, n2, own_beside h0 grown_cell4 n0, own_beside h1 grown_cell4 n1, own_beside h2 grown_cell4 n2⟩

theorem work_ins0 {wA w3 : World} {Bb gw m c3 kp : Nat} {A3 : Option Addr} {l : List B} {ts bs : List Int} {ys : List Value} {s : ByteArray} {t b : Int} (h : Work wA Bb gw l ts bs false) (hBb : Bb ≤ wA.heap.size) (hb : Below wA.heap.size wA w3) (ho : w3.ownsRow wA.heap.size 9 1 (.slice A3 m c3) m ys) (hm : m = l.length + 1) (hkp : kp ≤ l.length) (hy : ys = slv (l.take kp ++ [s.data.toList] ++ l.drop kp)) :
    Work (w3.setCell ⟨gw, 0, none⟩ (.slice A3 m c3)) Bb gw (l.take kp ++ [s.data.toList] ++ l.drop kp) ts bs false := by
  obtain ⟨g0, c0, g1, c1, g2, c2, hb0, hB, n0, n1, n2, h0, h1, h2⟩ := h
  obtain ⟨g3, rfl, q1, q2, q3, q4, q5⟩ := own_cells ho (by omega)
  have hlt := hb0.lt
  have hne : g3 ≠ gw := by omega
  have hX := (hb0.below hb hlt).set_ 0 (.slice (some ⟨g3, 0, none⟩) m c3)
  have r0 := own_beside (own_any h0 hb) (grown_cell4 (q := gw) (i := 0) (x := .slice (some ⟨g3, 0, none⟩) m c3)) n0
  have r1 := own_beside (own_any h1 hb) (grown_cell4 (q := gw) (i := 0) (x := .slice (some ⟨g3, 0, none⟩) m c3)) n1
  have r2 := own_beside (own_any h2 hb) (grown_cell4 (q := gw) (i := 0) (x := .slice (some ⟨g3, 0, none⟩) m c3)) n2
  have r3 := own_mono (own_beside ho (grown_cell4 (q := gw) (i := 0) (x := .slice (some ⟨g3, 0, none⟩) m c3)) hne) hBb
  have e : (l.take kp ++ [s.data.toList] ++ l.drop kp).length = m := by rw [hm]; simp; omega
  subst hy
  rw [← e] at hX r0 r1 r2 r3 ⊢
  exact ⟨g3, c3, g1, c1, g2, c2, by simpa using hX, hB, hne, n1, n2, r3, r1, r2⟩

theorem work_ins1 {wA w3 : World} {Bb gw m c3 kp : Nat} {A3 : Option Addr} {l : List B} {ts bs : List Int} {ys : List Value} {s : ByteArray} {t b : Int} (h : Work wA Bb gw l ts bs false) (hBb : Bb ≤ wA.heap.size) (hb : Below wA.heap.size wA w3) (ho : w3.ownsRow wA.heap.size 3 1 (.slice A3 m c3) m ys) (hm : m = ts.length + 1) (hkp : kp ≤ ts.length) (hy : ys = intv (ts.take kp ++ [t] ++ ts.drop kp)) :
    Work (w3.setCell ⟨gw, 1, none⟩ (.slice A3 m c3)) Bb gw l (ts.take kp ++ [t] ++ ts.drop kp) bs false := by
  obtain ⟨g0, c0, g1, c1, g2, c2, hb0, hB, n0, n1, n2, h0, h1, h2⟩ := h
  obtain ⟨g3, rfl, q1, q2, q3, q4, q5⟩ := own_cells ho (by omega)
  have hlt := hb0.lt
  have hne : g3 ≠ gw := by omega
  have hX := (hb0.below hb hlt).set_ 1 (.slice (some ⟨g3, 0, none⟩) m c3)
  have r0 := own_beside (own_any h0 hb) (grown_cell4 (q := gw) (i := 1) (x := .slice (some ⟨g3, 0, none⟩) m c3)) n0
  have r1 := own_beside (own_any h1 hb) (grown_cell4 (q := gw) (i := 1) (x := .slice (some ⟨g3, 0, none⟩) m c3)) n1
  have r2 := own_beside (own_any h2 hb) (grown_cell4 (q := gw) (i := 1) (x := .slice (some ⟨g3, 0, none⟩) m c3)) n2
  have r3 := own_mono (own_beside ho (grown_cell4 (q := gw) (i := 1) (x := .slice (some ⟨g3, 0, none⟩) m c3)) hne) hBb
  have e : (ts.take kp ++ [t] ++ ts.drop kp).length = m := by rw [hm]; simp; omega
  subst hy
  rw [← e] at hX r0 r1 r2 r3 ⊢
  exact ⟨g0, c0, g3, c3, g2, c2, by simpa using hX, hB, n0, hne, n2, r0, r3, r2⟩

theorem work_ins2 {wA w3 : World} {Bb gw m c3 kp : Nat} {A3 : Option Addr} {l : List B} {ts bs : List Int} {ys : List Value} {s : ByteArray} {t b : Int} (h : Work wA Bb gw l ts bs false) (hBb : Bb ≤ wA.heap.size) (hb : Below wA.heap.size wA w3) (ho : w3.ownsRow wA.heap.size 3 1 (.slice A3 m c3) m ys) (hm : m = bs.length + 1) (hkp : kp ≤ bs.length) (hy : ys = intv (bs.take kp ++ [b] ++ bs.drop kp)) :
    Work (w3.setCell ⟨gw, 2, none⟩ (.slice A3 m c3)) Bb gw l ts (bs.take kp ++ [b] ++ bs.drop kp) false := by
  obtain ⟨g0, c0, g1, c1, g2, c2, hb0, hB, n0, n1, n2, h0, h1, h2⟩ := h
  obtain ⟨g3, rfl, q1, q2, q3, q4, q5⟩ := own_cells ho (by omega)
  have hlt := hb0.lt
  have hne : g3 ≠ gw := by omega
  have hX := (hb0.below hb hlt).set_ 2 (.slice (some ⟨g3, 0, none⟩) m c3)
  have r0 := own_beside (own_any h0 hb) (grown_cell4 (q := gw) (i := 2) (x := .slice (some ⟨g3, 0, none⟩) m c3)) n0
  have r1 := own_beside (own_any h1 hb) (grown_cell4 (q := gw) (i := 2) (x := .slice (some ⟨g3, 0, none⟩) m c3)) n1
  have r2 := own_beside (own_any h2 hb) (grown_cell4 (q := gw) (i := 2) (x := .slice (some ⟨g3, 0, none⟩) m c3)) n2
  have r3 := own_mono (own_beside ho (grown_cell4 (q := gw) (i := 2) (x := .slice (some ⟨g3, 0, none⟩) m c3)) hne) hBb
  have e : (bs.take kp ++ [b] ++ bs.drop kp).length = m := by rw [hm]; simp; omega
  subst hy
  rw [← e] at hX r0 r1 r2 r3 ⊢
  exact ⟨g0, c0, g1, c1, g3, c3, by simpa using hX, hB, n0, n1, hne, r0, r1, r3⟩

end Go.Proofs.YtopmkddmllmecaaGreatDoor
