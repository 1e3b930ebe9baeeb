/- Sums: what it is to be valid. -/
import Derived.Test.YtopmkddmllmecaaGreatDoorSumB
import Derived.Test.YtopmkddmllmecaaGreatDoorSpecM
namespace Go.Proofs.YtopmkddmllmecaaGreatDoor
open Go.RowKit Rt

/-- The i-th term and its fraction are in order. -/
def itemOk (ss : List ByteArray) (ts bs : List Int) (i : Nat) : Bool :=
  (termOf (ss.getD i ByteArray.empty).data.toList).isSome && smallF (ts.getD i 0) (bs.getD i 0) && !(ts.getD i 0 == 0) &&
  (decide (i = 0) || ltB (ss.getD (i - 1) ByteArray.empty).data.toList (ss.getD i ByteArray.empty).data.toList) && (Nat.gcd (ts.getD i 0).natAbs (bs.getD i 0).natAbs == 1)

/-- A sum is valid. -/
def sumOk (ss : List ByteArray) (ts bs : List Int) : Bool :=
  decide (ss.length ≤ 300) && decide (ts.length = ss.length) && decide (bs.length = ss.length) && (List.range ss.length).all (itemOk ss ts bs)

theorem sumOk_false {ss : List ByteArray} {ts bs : List Int} {i : Nat} (hi : i < ss.length) (h : itemOk ss ts bs i = false) : sumOk ss ts bs = false := by
  unfold sumOk
  have : (List.range ss.length).all (itemOk ss ts bs) = false := by
    rw [List.all_eq_false]
    exact ⟨i, List.mem_range.2 hi, by simp [h]⟩
  rw [this, Bool.and_false]

theorem sumOk_true {ss : List ByteArray} {ts bs : List Int} (h1 : ss.length ≤ 300) (h2 : ts.length = ss.length) (h3 : bs.length = ss.length) (h : ∀ i, i < ss.length → itemOk ss ts bs i = true) : sumOk ss ts bs = true := by
  unfold sumOk
  have : (List.range ss.length).all (itemOk ss ts bs) = true := by
    rw [List.all_eq_true]
    exact fun i hi => h i (List.mem_range.1 hi)
  rw [this]
  simp [h1, h2, h3]

/-- In lowest terms: what is left of the bottom is all of it. -/
theorem lowest_iff (t b : Nat) (hb : 1 ≤ b) : b / Nat.gcd t b = b ↔ Nat.gcd t b = 1 := by
  have hg : 0 < Nat.gcd t b := Nat.gcd_pos_of_pos_right t hb
  have hd : Nat.gcd t b ∣ b := Nat.gcd_dvd_right t b
  constructor
  · intro h
    have h2 := Nat.div_mul_cancel hd
    rw [h] at h2
    have h3 : b * Nat.gcd t b = b * 1 := by omega
    exact Nat.eq_of_mul_eq_mul_left hb h3
  · intro h
    rw [h, Nat.div_one]

end Go.Proofs.YtopmkddmllmecaaGreatDoor
