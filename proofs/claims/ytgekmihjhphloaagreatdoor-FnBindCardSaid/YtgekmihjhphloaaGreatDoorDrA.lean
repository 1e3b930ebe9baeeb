/- The draws of the laws: the reader, pick. -/
import Derived.Test.YtgekmihjhphloaaGreatDoorSpecI
import Derived.Laws.BitsAllLaws
import Derived.Deep.RegionHeld
namespace Go.Proofs.YtgekmihjhphloaaGreatDoor
open Go.RowKit Rt

/-- The bytes of a code in memory. -/
def Bytes (w : World) (A : Option Addr) (n : Nat) : Prop := ∀ j, j < n → ∃ (g o x : Nat), A = some ⟨g, o, none⟩ ∧ g < w.heap.size ∧ w.cell? ⟨g, o + j, none⟩ = some (.int .u8 x) ∧ x < 256

theorem u8_wf {z : Int} (h : (Lit.int .u8 z).wf = true) : 0 ≤ z ∧ z < 256 := by
  simp [Lit.wf, IntKind.min, IntKind.max, IntKind.bits, IntKind.signed] at h
  omega

/-- A reader of a code: its block, the bytes, the place. -/
structure Rd (w : World) (r : Nat) (A : Option Addr) (n c p : Nat) : Prop where
  blk : Blk w r 86 #[.slice A n c, .int .i64 p]
  le : n ≤ 2000
  bytes : ∀ j, j < n → ∃ (g o x : Nat), A = some ⟨g, o, none⟩ ∧ g ≠ r ∧ g < w.heap.size ∧ w.cell? ⟨g, o + j, none⟩ = some (.int .u8 x) ∧ x < 256

theorem Rd.grown {w w' : World} {r n c p : Nat} {A : Option Addr} (h : Rd w r A n c p) (hb : Below w.heap.size w w') : Rd w' r A n c p :=
  ⟨h.blk.below hb h.blk.lt, h.le, fun j hj => by
    obtain ⟨g, o, x, e, h1, h2, h3, h4⟩ := h.bytes j hj
    exact ⟨g, o, x, e, h1, Nat.lt_of_lt_of_le h2 hb.size, (hb.cell (p := ⟨g, o + j, none⟩) h2).trans h3, h4⟩⟩

theorem Rd.set_ {w : World} {r n c p : Nat} {A : Option Addr} (h : Rd w r A n c p) (q : Nat) : Rd (w.setCell ⟨r, 1, none⟩ (.int .i64 q)) r A n c q :=
  ⟨h.blk.set_ 1 _, h.le, fun j hj => by
    obtain ⟨g, o, x, e, h1, h2, h3, h4⟩ := h.bytes j hj
    refine ⟨g, o, x, e, h1, by simpa using h2, ?_, h4⟩
    exact (World.cell?_setCell_far w ⟨r, 1, none⟩ _ _ (fun e => h1 (Eq.symm e))).trans h3⟩

theorem xor_i64 (a b : Nat) (ha : a < 4294967296) (hb : b < 4294967296) : bits .xor .i64 (a : Int) (b : Int) = ((a ^^^ b : Nat) : Int) ∧ a ^^^ b < 4294967296 := by
  have hx : a ^^^ b < 2 ^ 32 := Nat.xor_lt_two_pow (by omega) (by omega)
  refine ⟨?_, by omega⟩
  show IntKind.i64.wrap ((BitVec.ofInt 64 (a : Int) ^^^ BitVec.ofInt 64 (b : Int)).toNat : Int) = _
  rw [BitVec.toNat_xor, ofInt_u64 a (by omega), ofInt_u64 b (by omega)]
  simp [IntKind.wrap, IntKind.bits, IntKind.signed]
  omega

/-- What a draw of a number does. -/
def PickPost (w : World) (r : Nat) (A : Option Addr) (n c p : Nat) (m : Nat) (e : Ending) (w' : World) : Prop :=
  ∃ k : Nat, e = .returned (.int .i64 k) ∧ (k < m ∨ k = 0) ∧ w.grownBy w' (some r) ∧ Rd w' r A n c (p + 1)

end Go.Proofs.YtgekmihjhphloaaGreatDoor
