/- Naturals of at most two words in memory; fractions. -/
import Derived.Test.YtopmkddmllmecaaGreatDoorSpecI
namespace Go.Proofs.YtopmkddmllmecaaGreatDoor
open Go.RowKit Rt

/-- How many words a number has. -/
def nw (x : Nat) : Nat := if x = 0 then 0 else if x < 4294967296 then 1 else 2

theorem nw_le (x : Nat) : nw x ≤ 2 := by unfold nw; split <;> (try split) <;> omega

/-- A row that reads as a number below 2^64, without a 0 as its last word. -/
def NatRep (w : World) (v : Value) (x : Nat) : Prop :=
  x < 18446744073709551616 ∧ ∃ (A : Option Addr) (c : Nat), v = .slice A (nw x) c ∧ nw x ≤ c ∧ c ≤ maxLen ∧
    (0 < nw x → ∃ g o : Nat, A = some ⟨g, o, none⟩ ∧ w.cell? ⟨g, o, none⟩ = some (.int .u32 ((x % 4294967296 : Nat) : Int)) ∧ (nw x = 2 → w.cell? ⟨g, o + 1, none⟩ = some (.int .u32 ((x / 4294967296 : Nat) : Int))))

theorem NatRep.below {w w' : World} {v : Value} {x : Nat} (h : NatRep w v x) (hb : Below w.heap.size w w') : NatRep w' v x := by
  obtain ⟨h1, A, c, h2, h3, h4, h5⟩ := h
  refine ⟨h1, A, c, h2, h3, h4, fun hp => ?_⟩
  obtain ⟨g, o, e, c0, c1⟩ := h5 hp
  have hg : g < w.heap.size := World.block_lt_of_cell? w _ c0
  exact ⟨g, o, e, (hb.cell (p := ⟨g, o, none⟩) hg).trans c0, fun h => (hb.cell (p := ⟨g, o + 1, none⟩) hg).trans (c1 h)⟩

theorem NatRep.zero {w : World} {v : Value} (h : NatRep w v 0) : ∃ A c, v = .slice A 0 c := by
  obtain ⟨_, A, c, h2, _⟩ := h
  exact ⟨A, c, h2⟩

theorem nw_one {x : Nat} (h0 : x ≠ 0) (h1 : x < 4294967296) : nw x = 1 := by unfold nw; rw [if_neg h0, if_pos h1]
theorem nw_two {x : Nat} (h1 : 4294967296 ≤ x) : nw x = 2 := by unfold nw; rw [if_neg (by omega), if_neg (by omega)]

theorem NatRep.one {w : World} {v : Value} {x : Nat} (h : NatRep w v x) (h0 : x ≠ 0) (h1 : x < 4294967296) : ∃ g o c : Nat, v = .slice (some ⟨g, o, none⟩) 1 c ∧ 1 ≤ c ∧ w.cell? ⟨g, o, none⟩ = some (.int .u32 (x : Int)) := by
  obtain ⟨_, A, c, h2, h3, h4, h5⟩ := h
  have hn := nw_one h0 h1
  rw [hn] at h2 h3 h5
  obtain ⟨g, o, rfl, c0, _⟩ := h5 (by omega)
  rw [Nat.mod_eq_of_lt h1] at c0
  exact ⟨g, o, c, h2, h3, c0⟩

theorem NatRep.two {w : World} {v : Value} {x : Nat} (h : NatRep w v x) (h1 : 4294967296 ≤ x) : ∃ g o c : Nat, v = .slice (some ⟨g, o, none⟩) 2 c ∧ 2 ≤ c ∧ w.cell? ⟨g, o, none⟩ = some (.int .u32 ((x % 4294967296 : Nat) : Int)) ∧ w.cell? ⟨g, o + 1, none⟩ = some (.int .u32 ((x / 4294967296 : Nat) : Int)) := by
  obtain ⟨_, A, c, h2, h3, h4, h5⟩ := h
  have hn := nw_two h1
  rw [hn] at h2 h3 h5
  obtain ⟨g, o, rfl, c0, c1⟩ := h5 (by omega)
  exact ⟨g, o, c, h2, h3, c0, c1 rfl⟩

/-- A fraction: its sign and its parts. -/
def FracRep (w : World) (v : Value) (s : Bool) (t b : Nat) : Prop :=
  ∃ x y, v = .agg #[.bool s, x, y] ∧ NatRep w x t ∧ NatRep w y b

theorem FracRep.below {w w' : World} {v : Value} {s : Bool} {t b : Nat} (h : FracRep w v s t b) (hb : Below w.heap.size w w') : FracRep w' v s t b := by
  obtain ⟨x, y, e, h1, h2⟩ := h
  exact ⟨x, y, e, h1.below hb, h2.below hb⟩

end Go.Proofs.YtopmkddmllmecaaGreatDoor
