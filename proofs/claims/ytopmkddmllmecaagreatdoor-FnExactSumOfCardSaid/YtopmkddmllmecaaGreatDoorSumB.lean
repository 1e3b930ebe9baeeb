/- Sums: the model's l2Gcd, l2Small. -/
import Derived.Test.YtopmkddmllmecaaGreatDoorNatC
namespace Go.Proofs.YtopmkddmllmecaaGreatDoor
open Go.RowKit Rt

/-- A fraction as it is given is small enough. -/
def smallF (t b : Int) : Bool := decide (-1000000000 ≤ t) && decide (t ≤ 1000000000) && decide (1 ≤ b) && decide (b ≤ 1000000000)

set_option maxHeartbeats 1600000 in
set_option maxRecDepth 100000 in
theorem l2Small_any (t b : Int) (w : World) :
    Calls Tryz.prog 33 #[.int .i64 t, .int .i64 b] w fun e w' => e = .returned (.bool (smallF t b)) ∧ w = w' := by
  have h1 : smallF t b = (decide (-1000000000 ≤ t) && decide (t ≤ 1000000000) && (decide (1 ≤ b) && decide (b ≤ 1000000000))) := by unfold smallF; simp only [Bool.and_assoc]
  rw [h1]
  by_cases c1 : -1000000000 ≤ t
  · by_cases c2 : t ≤ 1000000000
    · by_cases c3 : 1 ≤ b
      · by_cases c4 : b ≤ 1000000000
        all_goals
          simp only [c1, c2, c3, c4, decide_true, decide_false, Bool.and_true, Bool.and_false]
          go_enter Tryz.func33, Tryz.ntmps33
          go_wp2
          go_ret
          exact ⟨rfl, rfl⟩
      · simp only [c1, c2, c3, decide_true, decide_false, Bool.and_true, Bool.false_and, Bool.and_false]
        go_enter Tryz.func33, Tryz.ntmps33
        go_wp2
        go_ret
        exact ⟨rfl, rfl⟩
    · simp only [c1, c2, decide_true, decide_false, Bool.and_false, Bool.false_and]
      go_enter Tryz.func33, Tryz.ntmps33
      go_wp2
      go_ret
      exact ⟨rfl, rfl⟩
  · simp only [c1, decide_false, Bool.false_and]
    go_enter Tryz.func33, Tryz.ntmps33
    go_wp2
    go_ret
    exact ⟨rfl, rfl⟩

set_option maxHeartbeats 1600000 in
set_option maxRecDepth 100000 in
/-- Euclid's way. -/
theorem l2Gcd_any (t b : Int) (w : World) (h1 : -2000000000000000000 ≤ t) (h2 : t ≤ 2000000000000000000) (h3 : 0 ≤ b) (h4 : b ≤ 2000000000000000000) :
    Calls Tryz.prog 34 #[.int .i64 t, .int .i64 b] w fun e w' => e = .returned (.int .i64 (Nat.gcd t.natAbs b.natAbs : Nat)) ∧ w = w' := by
  obtain ⟨g, hg⟩ : ∃ g, g = Nat.gcd t.natAbs b.natAbs := ⟨_, rfl⟩
  rw [← hg]
  have HGG := Lib.hid hg
  clear hg
  by_cases hneg : t < 0
  · have d1 : decide (t < 0) = true := by simpa using hneg
    go_enter Tryz.func34, Tryz.ntmps34
    go_wp2
    go_loop [0, 1] (fun av bv => ∃ x y : Nat, x ≤ 2000000000000000000 ∧ y ≤ 2000000000000000000 ∧ av = .int .i64 x ∧ bv = .int .i64 y ∧ Hid (Nat.gcd x y = g)) (fun _ bv => (intOf bv).toNat)
    case atStart => exact ⟨t.natAbs, b.natAbs, by omega, by omega, congrArg (Value.int .i64) (by omega), congrArg (Value.int .i64) (by omega), HGG.out.symm⟩
    case round =>
      obtain ⟨x, y, hx, hy, rfl, rfl, hgg⟩ := hrel
      by_cases hy0 : y = 0
      · subst hy0
        have HE : Hid (x = g) := by have := hgg.out; rw [Nat.gcd_zero_right] at this; exact this
        go_wp2
        go_ret
        exact ⟨by rw [← HE.out]; rfl, rfl⟩
      · have d3 : ((y : Int) != 0) = true := by simpa using hy0
        obtain ⟨r, hr⟩ : ∃ r, r = x % y := ⟨_, rfl⟩
        have hrl : r < y := by rw [hr]; exact Nat.mod_lt _ (by omega)
        have e1 : (x : Int).tmod (y : Int) = (r : Int) := by rw [Int.tmod_eq_emod_of_nonneg (by omega), hr]; rfl
        have HG : Hid (Nat.gcd y r = g) := by show _ = _; rw [hr, ← gcd_next x y (by omega)]; exact hgg.out
        clear hr
        go_wp2
        go_round
        case rel => exact ⟨y, r, by omega, by omega, rfl, rfl, HG.out⟩
        case measure => simp [intOf]; omega
  · have d1 : decide (t < 0) = false := by simpa using hneg
    go_enter Tryz.func34, Tryz.ntmps34
    go_wp2
    go_loop [0, 1] (fun av bv => ∃ x y : Nat, x ≤ 2000000000000000000 ∧ y ≤ 2000000000000000000 ∧ av = .int .i64 x ∧ bv = .int .i64 y ∧ Hid (Nat.gcd x y = g)) (fun _ bv => (intOf bv).toNat)
    case atStart => exact ⟨t.natAbs, b.natAbs, by omega, by omega, congrArg (Value.int .i64) (by omega), congrArg (Value.int .i64) (by omega), HGG.out.symm⟩
    case round =>
      obtain ⟨x, y, hx, hy, rfl, rfl, hgg⟩ := hrel
      by_cases hy0 : y = 0
      · subst hy0
        have HE : Hid (x = g) := by have := hgg.out; rw [Nat.gcd_zero_right] at this; exact this
        go_wp2
        go_ret
        exact ⟨by rw [← HE.out]; rfl, rfl⟩
      · have d3 : ((y : Int) != 0) = true := by simpa using hy0
        obtain ⟨r, hr⟩ : ∃ r, r = x % y := ⟨_, rfl⟩
        have hrl : r < y := by rw [hr]; exact Nat.mod_lt _ (by omega)
        have e1 : (x : Int).tmod (y : Int) = (r : Int) := by rw [Int.tmod_eq_emod_of_nonneg (by omega), hr]; rfl
        have HG : Hid (Nat.gcd y r = g) := by show _ = _; rw [hr, ← gcd_next x y (by omega)]; exact hgg.out
        clear hr
        go_wp2
        go_round
        case rel => exact ⟨y, r, by omega, by omega, rfl, rfl, HG.out⟩
        case measure => simp [intOf]; omega

end Go.Proofs.YtopmkddmllmecaaGreatDoor
