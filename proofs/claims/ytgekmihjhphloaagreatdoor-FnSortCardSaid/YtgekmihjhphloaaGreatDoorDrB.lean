/- The draws of the laws: pick, of, l6Open. -/
import Derived.Test.YtgekmihjhphloaaGreatDoorDrA
namespace Go.Proofs.YtgekmihjhphloaaGreatDoor
open Go.RowKit Rt

theorem grown_set {w : World} {r : Nat} (u : Value) : w.grownBy (w.setCell ⟨r, 1, none⟩ u) (some r) :=
  ⟨rfl, rfl, rfl, by simp, fun k _ hne => Below.heap_setCell w _ u k (by intro e; exact hne (by rw [e]))⟩

theorem grown_trans {w w1 w2 : World} {r : Nat} (h1 : w.grownBy w1 (some r)) (h2 : w1.grownBy w2 (some r)) : w.grownBy w2 (some r) :=
  ⟨h2.os.trans h1.os, h2.tape.trans h1.tape, h2.output.trans h1.output, Nat.le_trans h1.size h2.size, fun k hk hne => (h2.block k (Nat.lt_of_lt_of_le hk h1.size) hne).trans (h1.block k hk hne)⟩

set_option maxHeartbeats 1600000 in
set_option maxRecDepth 100000 in
theorem pick_any (r : Nat) (A : Option Addr) (n c p m : Nat) (w : World) (hm : m ≤ 1000) (hp : p ≤ 1000000) (hR : Rd w r A n c p) :
    Calls Tryz.prog 49 #[.pointer (some ⟨r, 0, none⟩), .int .i64 m] w (PickPost w r A n c p m) := by
  obtain ⟨p0, p1, p2, p3⟩ := blk_cells hR.blk
  have HR : Hid (Rd (w.setCell ⟨r, 1, none⟩ (.int .i64 ((p : Int) + 1))) r A n c (p + 1)) := hR.set_ (p + 1)
  have HG : Hid (w.grownBy (w.setCell ⟨r, 1, none⟩ (.int .i64 ((p : Int) + 1))) (some r)) := grown_set _
  have hn := hR.le
  obtain ⟨q0, q1, q2, q3⟩ := blk_cells HR.out.blk
  have q1' : (w.setCell ⟨r, 1, none⟩ (.int .i64 ((p : Int) + 1))).cell? ⟨r, 1, none⟩ = some (.int .i64 ((p : Int) + 1)) := q1
  clear q1 hR
  by_cases hm0 : m = 0
  · subst hm0
    go_enter Tryz.func49, Tryz.ntmps49
    go_wp2_with fail
    go_ret
    exact ⟨0, rfl, .inr rfl, HG.out, HR.out⟩
  · have hm1 : 1 ≤ m := by omega
    clear hm0
    by_cases hn0 : n = 0
    · subst hn0
      go_enter Tryz.func49, Tryz.ntmps49
      go_wp2_with fail
      go_ret
      exact ⟨0, rfl, .inr rfl, HG.out, HR.out⟩
    · have hn1 : 1 ≤ n := by omega
      clear hn0
      by_cases hpn : p < n
      · obtain ⟨g, o, x, rfl, h1, h2, h3, h4⟩ := HR.out.bytes p hpn
        obtain ⟨y, hy⟩ : ∃ y, y = x % m := ⟨_, rfl⟩
        have hym : y < m := by rw [hy]; exact Nat.mod_lt _ (by omega)
        have e1 : (x : Int).tmod (m : Int) = (y : Int) := by rw [Int.tmod_eq_emod_of_nonneg (by omega), hy]; rfl
        have d1 : decide ((m : Int) < 1) = false := by simp; omega
        have d2 : ((n : Int) == 0) = false := by simp; omega
        clear hy
        go_enter Tryz.func49, Tryz.ntmps49
        go_wp2_with fail
        go_ret
        exact ⟨y, rfl, .inl hym, HG.out, HR.out⟩
      · obtain ⟨i1, hi1⟩ : ∃ i, i = p % n := ⟨_, rfl⟩
        obtain ⟨i2, hi2⟩ : ∃ i, i = (p * 7 + 3) % n := ⟨_, rfl⟩
        obtain ⟨q, hq⟩ : ∃ i, i = p / n := ⟨_, rfl⟩
        have hl1 : i1 < n := by rw [hi1]; exact Nat.mod_lt _ (by omega)
        have hl2 : i2 < n := by rw [hi2]; exact Nat.mod_lt _ (by omega)
        have hql : q ≤ p := by rw [hq]; exact Nat.div_le_self _ _
        have e1 : (p : Int).tmod (n : Int) = (i1 : Int) := by rw [Int.tmod_eq_emod_of_nonneg (by omega), hi1]; rfl
        have e2 : ((p : Int) * 7 + 3).tmod (n : Int) = (i2 : Int) := by rw [Int.tmod_eq_emod_of_nonneg (by omega), hi2]; rfl
        have e3 : (p : Int).tdiv (n : Int) = (q : Int) := by rw [Int.tdiv_eq_ediv_of_nonneg (by omega), hq]; rfl
        have d1 : decide ((m : Int) < 1) = false := by simp; omega
        have d2 : ((n : Int) == 0) = false := by simp; omega
        clear hi1 hi2 hq
        obtain ⟨g, o, x1, rfl, h1, h2, h3, h4⟩ := HR.out.bytes i1 hl1
        obtain ⟨g', o', x2, e9, _, _, h5, h6⟩ := HR.out.bytes i2 hl2
        injection e9 with e9
        injection e9 with e9 e10
        subst e9
        subst e10
        go_enter Tryz.func49, Tryz.ntmps49
        go_wp2_with fail
        go_region
        obtain ⟨X, hX⟩ : ∃ X : Nat, X = x1 * 131 + x2 * 1117 + p * 29 + q * 53 := ⟨_, rfl⟩
        have hXl : X < 4294967296 := by omega
        have e4 : (x1 : Int) * 131 + (x2 : Int) * 1117 + (p : Int) * 29 + (q : Int) * 53 = (X : Int) := by rw [hX]; simp
        obtain ⟨z, hz⟩ : ∃ z : Nat, z = X / 64 := ⟨_, rfl⟩
        have hzl : z < 4294967296 := by omega
        have e5 : (X : Int).tdiv 64 = (z : Int) := by rw [Int.tdiv_eq_ediv_of_nonneg (by omega), hz]; rfl
        obtain ⟨e6, hYl⟩ := xor_i64 X z hXl hzl
        obtain ⟨Y, hY⟩ : ∃ Y : Nat, Y = X ^^^ z := ⟨_, rfl⟩
        rw [← hY] at e6 hYl
        obtain ⟨y, hy⟩ : ∃ y, y = Y % m := ⟨_, rfl⟩
        have hym : y < m := by rw [hy]; exact Nat.mod_lt _ (by omega)
        have e7 : (Y : Int).tmod (m : Int) = (y : Int) := by rw [Int.tmod_eq_emod_of_nonneg (by omega), hy]; rfl
        clear hX hz hY hy
        rw [e4]
        go_wp2_with fail
        go_ret
        exact ⟨y, rfl, .inl hym, ⟨HG.out.os, HG.out.tape, HG.out.output, HG.out.size, HG.out.block⟩, HR.out.grown (Below.refl _ _).drew⟩

end Go.Proofs.YtgekmihjhphloaaGreatDoor
