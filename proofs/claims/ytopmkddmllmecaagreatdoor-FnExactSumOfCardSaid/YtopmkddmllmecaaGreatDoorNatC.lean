/- The program's naturals: gcd, divide, over, times. -/
import Derived.Test.YtopmkddmllmecaaGreatDoorNatB
namespace Go.Proofs.YtopmkddmllmecaaGreatDoor
open Go.RowKit Rt

theorem gcd_next (n m : Nat) (_ : 0 < m) : Nat.gcd n m = Nat.gcd m (n % m) := by
  rw [Nat.gcd_comm n m, Nat.gcd_rec m n, Nat.gcd_comm]

theorem NatRep.shape {w : World} {v : Value} {x : Nat} (h : NatRep w v x) : ∃ (A : Option Addr) (n c : Nat), v = .slice A n c ∧ n ≤ 2 ∧ n ≤ c ∧ (n = 0 ↔ x = 0) ∧ n = nw x := by
  obtain ⟨h1, A, c, h2, h3, h4, h5⟩ := h
  refine ⟨A, nw x, c, h2, nw_le x, h3, ?_, rfl⟩
  unfold nw
  split
  · simp [*]
  · split <;> simp [*]

set_option maxHeartbeats 1600000 in
set_option maxRecDepth 100000 in
theorem gcd_any (v u : Value) (x y : Nat) (w : World) (hv : NatRep w v x) (hu : NatRep w u y) :
    Calls Tryz.prog 93 #[v, u] w (NatPost w (Nat.gcd x y)) := by
  have HV := Lib.hid hv
  have HU := Lib.hid hu
  have hx := hv.1
  have hy := hu.1
  obtain ⟨A, p, c, rfl, hp2, hpc, hp0, -⟩ := hv.shape
  obtain ⟨C, q, d, rfl, hq2, hqd, hq0, -⟩ := hu.shape
  have HQ := Lib.hid hq0
  have d1 : decide ((p : Int) > 2) = false := by rw [decide_eq_false_iff_not]; omega
  have d2 : decide ((q : Int) > 2) = false := by rw [decide_eq_false_iff_not]; omega
  clear hv hu hp0 hq0
  by_cases hqz : q = 0
  · have HG : Hid (Nat.gcd x y = x) := by show _ = _; rw [HQ.out.1 hqz, Nat.gcd_zero_right]
    generalize Nat.gcd x y = g at HG ⊢
    subst hqz
    go_enter Tryz.func93, Tryz.ntmps93
    go_wp2_with fail
    go_loop [0, 1] (fun av bv => av = .slice A p c ∧ bv = .slice C 0 d) (fun _ _ => 0)
    case atStart => exact ⟨rfl, rfl⟩
    case round =>
      obtain ⟨rfl, rfl⟩ := hrel
      go_wp2_with fail
      go_ret
      exact ⟨Below.refl _ _, _, rfl, by rw [HG.out]; exact HV.out⟩
  · have hqp : 0 < q := by omega
    have hyp : 0 < y := by have := HQ.out.2; omega
    obtain ⟨g, hg⟩ : ∃ g, g = Nat.gcd x y := ⟨_, rfl⟩
    rw [← hg]
    have HG := Lib.hid hg
    have HW1 := Lib.hid (word_any _ x w HV.out)
    have HW2 : Hid (∀ W, Below w.heap.size w W → Calls Tryz.prog 80 #[.slice C q d] W fun e w' => e = .returned (.int .u64 y) ∧ Below W.heap.size W w') := fun W h => word_any _ y W (HU.out.below h)
    have HNO : Hid (∀ W (n : Nat), n < 18446744073709551616 → Calls Tryz.prog 73 #[.int .u64 n] W (NatPost W n)) := fun W n h => naturalOf_any n W h
    have d3 : decide ((q : Int) > 0) = true := by rw [decide_eq_true_eq]; omega
    have d4 : ((q : Int) == 0) = false := by simp; omega
    clear hg
    go_enter Tryz.func93, Tryz.ntmps93
    go_wp2_with fail
    go_loop [0, 1] (fun av bv => av = .slice A p c ∧ bv = .slice C q d) (fun _ _ => 0)
    case atStart => exact ⟨rfl, rfl⟩
    case round =>
      obtain ⟨rfl, rfl⟩ := hrel
      go_wp2_with fail
      refine HW1.out.mono ?_
      rintro e w1 ⟨rfl, hb1⟩
      have HB1 := Lib.hid hb1
      clear hb1
      go_wp2_with fail
      refine (HW2.out w1 HB1.out).mono ?_
      rintro e w2 ⟨rfl, hb2⟩
      have HB2 := Lib.hid (HB1.out.trans (hb2.mono HB1.out.size))
      clear hb2
      go_wp2_with fail
      go_loopw [7, 8] (fun nv mv wr => ∃ n m : Nat, n < 18446744073709551616 ∧ m < 18446744073709551616 ∧ nv = .int .u64 n ∧ mv = .int .u64 m ∧ Hid (g = Nat.gcd n m) ∧ Hid (Below w.heap.size w wr)) (fun _ mv _ => (intOf mv).toNat)
      case atStart => exact ⟨x, y, hx, hy, rfl, rfl, HG.out, HB2.out⟩
      case round =>
        obtain ⟨n, m, hn, hm, rfl, rfl, hgg, hbel⟩ := hrel
        by_cases hm0 : m = 0
        · subst hm0
          have HE : Hid (g = n) := by have := hgg.out; rw [Nat.gcd_zero_right] at this; exact this
          go_wp2_with fail
          refine (HNO.out wr n hn).mono ?_
          rintro e w3 ⟨hb3, v3, rfl, hv3⟩
          have HB3 := Lib.hid (hbel.out.trans (hb3.mono hbel.out.size))
          have HV3 := Lib.hid hv3
          clear hb3 hv3
          go_wp2_with fail
          go_ret
          exact ⟨HB3.out, v3, rfl, by rw [HE.out]; exact HV3.out⟩
        · have hmp : 0 < m := by omega
          obtain ⟨r, hr⟩ : ∃ r, r = n % m := ⟨_, rfl⟩
          have hrl : r < m := by rw [hr]; exact Nat.mod_lt _ hmp
          have e1 : (n : Int).tmod (m : Int) = (r : Int) := by rw [Int.tmod_eq_emod_of_nonneg (by omega), hr]; rfl
          have e2 : (n : Int) % (m : Int) = (r : Int) := by rw [hr]; rfl
          have HGN : Hid (g = Nat.gcd m r) := by show _ = _; rw [hr, ← gcd_next n m hmp]; exact hgg.out
          have d5 : decide ((m : Int) > 0) = true := by rw [decide_eq_true_eq]; omega
          have d6 : ((m : Int) == 0) = false := by simp; omega
          clear hr
          go_wp2_with fail
          go_region
          all_goals
            go_wp2_with fail
            go_roundw
            case rel => exact ⟨m, r, by omega, by omega, rfl, rfl, HGN.out, hbel.out.drew⟩
            case measure => simp [intOf]; omega

/-- What divide gives: how often, and what is left. -/
def DivPost (w : World) (x y : Nat) (e : Ending) (w' : World) : Prop :=
  Below w.heap.size w w' ∧ ∃ q r, e = .returned (.tuple #[q, r]) ∧ NatRep w' q (x / y) ∧ NatRep w' r (x % y)

set_option maxHeartbeats 1600000 in
set_option maxRecDepth 100000 in
theorem divide_any (v u : Value) (x y : Nat) (w : World) (hy0 : 0 < y) (hv : NatRep w v x) (hu : NatRep w u y) :
    Calls Tryz.prog 113 #[v, u] w (DivPost w x y) := by
  have HV := Lib.hid hv
  have HU := Lib.hid hu
  have hx := hv.1
  have hy := hu.1
  obtain ⟨A, p, c, rfl, hp2, hpc, -, -⟩ := hv.shape
  obtain ⟨C, q, d, rfl, hq2, hqd, -, -⟩ := hu.shape
  have d1 : decide ((p : Int) ≤ 2) = true := by rw [decide_eq_true_eq]; omega
  have d2 : decide ((q : Int) ≤ 2) = true := by rw [decide_eq_true_eq]; omega
  have HW1 : Hid (∀ W, Below w.heap.size w W → Calls Tryz.prog 80 #[.slice A p c] W fun e w' => e = .returned (.int .u64 x) ∧ Below W.heap.size W w') := fun W h => word_any _ x W (HV.out.below h)
  have HW2 : Hid (∀ W, Below w.heap.size w W → Calls Tryz.prog 80 #[.slice C q d] W fun e w' => e = .returned (.int .u64 y) ∧ Below W.heap.size W w') := fun W h => word_any _ y W (HU.out.below h)
  have HNO : Hid (∀ W (n : Nat), n < 18446744073709551616 → Calls Tryz.prog 73 #[.int .u64 n] W (NatPost W n)) := fun W n h => naturalOf_any n W h
  obtain ⟨a, ha⟩ : ∃ a, a = x / y := ⟨_, rfl⟩
  obtain ⟨r, hr⟩ : ∃ r, r = x % y := ⟨_, rfl⟩
  have hal : a ≤ x := by rw [ha]; exact Nat.div_le_self _ _
  have hrl : r < y := by rw [hr]; exact Nat.mod_lt _ hy0
  have e1 : (x : Int).tdiv (y : Int) = (a : Int) := by rw [Int.tdiv_eq_ediv_of_nonneg (by omega), ha]; rfl
  have e2 : (x : Int) / (y : Int) = (a : Int) := by rw [ha]; rfl
  have e3 : (x : Int).tmod (y : Int) = (r : Int) := by rw [Int.tmod_eq_emod_of_nonneg (by omega), hr]; rfl
  have e4 : (x : Int) % (y : Int) = (r : Int) := by rw [hr]; rfl
  unfold DivPost
  rw [← ha, ← hr]
  clear hv hu ha hr
  go_enter Tryz.func113, Tryz.ntmps113
  go_wp2_with fail
  refine (HW1.out w (Below.refl _ _)).mono ?_
  rintro e w1 ⟨rfl, hb1⟩
  have HB1 := Lib.hid hb1
  clear hb1
  go_wp2_with fail
  refine (HW2.out w1 HB1.out).mono ?_
  rintro e w2 ⟨rfl, hb2⟩
  have HB2 := Lib.hid (HB1.out.trans (hb2.mono HB1.out.size))
  clear hb2
  go_wp2_with fail
  refine (HNO.out w2 a (by omega)).mono ?_
  rintro e w3 ⟨hb3, v3, rfl, hv3⟩
  have HB3 := Lib.hid (HB2.out.trans (hb3.mono HB2.out.size))
  have HV3 := Lib.hid hv3
  clear hb3 hv3
  go_wp2_with fail
  refine (HW1.out w3 HB3.out).mono ?_
  rintro e w4 ⟨rfl, hb4⟩
  have HB4 := Lib.hid (HB3.out.trans (hb4.mono HB3.out.size))
  have HV4 := Lib.hid (HV3.out.below hb4)
  clear hb4
  go_wp2_with fail
  refine (HW2.out w4 HB4.out).mono ?_
  rintro e w5 ⟨rfl, hb5⟩
  have HB5 := Lib.hid (HB4.out.trans (hb5.mono HB4.out.size))
  have HV5 := Lib.hid (HV4.out.below hb5)
  clear hb5
  go_wp2_with fail
  refine (HNO.out w5 r (by omega)).mono ?_
  rintro e w6 ⟨hb6, v6, rfl, hv6⟩
  have HB6 := Lib.hid (HB5.out.trans (hb6.mono HB5.out.size))
  have HV6 := Lib.hid (HV5.out.below hb6)
  have HR6 := Lib.hid hv6
  clear hb6 hv6
  go_wp2_with fail
  go_ret2
  exact ⟨HB6.out, _, _, rfl, HV6.out, HR6.out⟩

set_option maxHeartbeats 1600000 in
set_option maxRecDepth 100000 in
theorem over_any (v u : Value) (x y : Nat) (w : World) (hy0 : 0 < y) (hv : NatRep w v x) (hu : NatRep w u y) :
    Calls Tryz.prog 94 #[v, u] w (NatPost w (x / y)) := by
  have HV := Lib.hid hv
  have HDV := Lib.hid (divide_any v u x y w hy0 hv hu)
  by_cases h1 : y = 1
  · subst h1
    obtain ⟨g, o, d, rfl, hd, e0⟩ := hu.one (by omega) (by omega)
    obtain ⟨A, p, c, rfl, -, -, -, -⟩ := hv.shape
    rw [Nat.div_one]
    clear hv hu HDV
    go_enter Tryz.func94, Tryz.ntmps94
    go_wp2_with fail
    go_ret
    exact ⟨Below.refl _ _, _, rfl, HV.out⟩
  · obtain ⟨a, ha⟩ : ∃ a, a = x / y := ⟨_, rfl⟩
    unfold DivPost at HDV
    rw [← ha] at HDV ⊢
    by_cases h2 : y < 4294967296
    · obtain ⟨g, o, d, rfl, hd, e0⟩ := hu.one (by omega) h2
      have d1 : ((y : Int) == 1) = false := by simp; omega
      clear hv hu ha
      go_enter Tryz.func94, Tryz.ntmps94
      go_wp2_with fail
      refine HDV.out.mono ?_
      rintro e w1 ⟨hb1, q1, r1, rfl, hq1, -⟩
      have HB1 := Lib.hid hb1
      have HQ1 := Lib.hid hq1
      clear hb1 hq1
      go_wp2_with fail
      go_ret
      exact ⟨HB1.out, _, rfl, HQ1.out⟩
    · obtain ⟨g, o, d, rfl, hd, e0, -⟩ := hu.two (by omega)
      clear hv hu ha
      go_enter Tryz.func94, Tryz.ntmps94
      go_wp2_with fail
      refine HDV.out.mono ?_
      rintro e w1 ⟨hb1, q1, r1, rfl, hq1, -⟩
      have HB1 := Lib.hid hb1
      have HQ1 := Lib.hid hq1
      clear hb1 hq1
      go_wp2_with fail
      go_ret
      exact ⟨HB1.out, _, rfl, HQ1.out⟩

end Go.Proofs.YtopmkddmllmecaaGreatDoor
