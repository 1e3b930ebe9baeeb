/- The draws of the laws: of, l6Open. -/
import Derived.Test.YtgekmihjhphloaaGreatDoorDrB
import Derived.Test.YtgekmihjhphloaaGreatDoorSpecI
namespace Go.Proofs.YtgekmihjhphloaaGreatDoor
open Go.RowKit Rt

/-- What a draw of a text does: at most K places on, a text of at most L bytes. -/
def DrawnPost (w : World) (r : Nat) (A : Option Addr) (n c p K L : Nat) (e : Ending) (w' : World) : Prop :=
  ∃ (s : ByteArray) (q : Nat), e = .returned (.string s) ∧ s.size ≤ L ∧ q ≤ p + K ∧ w.grownBy w' (some r) ∧ Rd w' r A n c q

theorem drew_grown {w w1 : World} {row : Option Nat} (h : w.grownBy w1 row) : w.grownBy w1.drew row := ⟨h.os, h.tape, h.output, h.size, h.block⟩

theorem cell_grown {w w1 : World} {r g j : Nat} {x : Value} (h : w.grownBy w1 (some r)) (hg : g ≠ r) (e : w.cell? ⟨g, j, none⟩ = some x) : w1.cell? ⟨g, j, none⟩ = some x := by
  have hb := h.block g (World.block_lt_of_cell? w _ e) (by intro e; injection e with e; exact hg e)
  unfold World.cell? at e ⊢
  simp only at e ⊢
  rw [hb]
  exact e

/-- A row of texts, each of at most L bytes. -/
def Lits (w : World) (g m L : Nat) : Prop := ∀ j, j < m → ∃ s : ByteArray, w.cell? ⟨g, j, none⟩ = some (.string s) ∧ s.size ≤ L

set_option maxHeartbeats 1600000 in
set_option maxRecDepth 100000 in
theorem of_any (r : Nat) (A : Option Addr) (n c p g m cc L : Nat) (w : World) (h1 : 1 ≤ m) (hm : m ≤ 1000) (hp : p ≤ 1000000) (hR : Rd w r A n c p) (hg : g ≠ r) (hl : Lits w g m L) :
    Calls Tryz.prog 64 #[.pointer (some ⟨r, 0, none⟩), .slice (some ⟨g, 0, none⟩) m cc] w (DrawnPost w r A n c p 1 L) := by
  have HC := Lib.hid (pick_any r A n c p m w hm hp hR)
  have HL := Lib.hid hl
  clear hR hl
  go_enter Tryz.func64, Tryz.ntmps64
  go_wp2_with fail
  refine HC.out.mono ?_
  rintro e w1 ⟨k, rfl, hk, hg1, hR1⟩
  have hkm : k < m := by omega
  obtain ⟨s, e0, hs⟩ := HL.out k hkm
  have e1 := cell_grown hg1 hg e0
  have HG := Lib.hid hg1
  have HR := Lib.hid hR1
  clear hg1 hR1 e0
  go_wp2_with fail
  go_ret
  exact ⟨s, p + 1, rfl, hs, by omega, HG.out, HR.out⟩

/-- What the opening of a code does. -/
def OpenPost (w : World) (A : Option Addr) (c : Nat) (e : Ending) (w' : World) : Prop :=
  e = .returned (.pointer (some ⟨w.heap.size, 0, none⟩)) ∧ Below w.heap.size w w' ∧ ∃ m, Rd w' w.heap.size A m c 0

theorem bytes_rd {w : World} {A : Option Addr} {n c m : Nat} (h : Bytes w A n) (hm : m ≤ n) (h2 : m ≤ 2000) : Rd (w.alloc (.cells #[.slice A m c, .int .i64 0] 86)) w.heap.size A m c 0 :=
  ⟨Blk.new w _ _, h2, fun j hj => by
    obtain ⟨g, o, x, e, h1, h3, h4⟩ := h j (by omega)
    exact ⟨g, o, x, e, by omega, by simp; omega, cell_alloc h3 _, h4⟩⟩

set_option maxHeartbeats 1600000 in
set_option maxRecDepth 100000 in
theorem l6Open_any (A : Option Addr) (n c : Nat) (w : World) (hn : n ≤ maxLen) (hnc : n ≤ c) (hB : Bytes w A n) :
    Calls Tryz.prog 44 #[.slice A n c] w (OpenPost w A c) := by
  unfold maxLen at hn
  by_cases h : n ≤ 2000
  · have HR := Lib.hid (bytes_rd (c := c) hB (Nat.le_refl _) h)
    have d1 : decide ((n : Int) > 2000) = false := by simp; omega
    clear hB
    go_enter Tryz.func44, Tryz.ntmps44
    go_wp2_with fail
    go_ret
    exact ⟨rfl, (Below.refl _ _).alloc (Nat.le_refl _) _, n, HR.out⟩
  · obtain ⟨g, o, x, rfl, _⟩ := hB 0 (by omega)
    have HR := Lib.hid (bytes_rd (c := c) hB (m := 2000) (by omega) (Nat.le_refl _))
    have d1 : decide ((n : Int) > 2000) = true := by simp; omega
    clear hB
    go_enter Tryz.func44, Tryz.ntmps44
    go_wp2_with fail
    go_ret
    exact ⟨rfl, (Below.refl _ _).alloc (Nat.le_refl _) _, 2000, HR.out⟩

end Go.Proofs.YtgekmihjhphloaaGreatDoor
