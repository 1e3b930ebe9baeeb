/- The draws of the laws: l91Loose. -/
import Derived.Test.YtgekmihjhphloaaGreatDoorDrC
import Derived.Test.YtgekmihjhphloaaGreatDoorSpA
namespace Go.Proofs.YtgekmihjhphloaaGreatDoor
open Go.RowKit Rt

def strs (cs : Array Value) : List ByteArray := cs.toList.filterMap fun v => match v with | .string s => some s | _ => none

theorem lits_new (w : World) (cs : Array Value) (m L : Nat) (h : cs = ((strs cs).map Value.string).toArray) (hm : (strs cs).length = m) (hl : ∀ s ∈ strs cs, s.size ≤ L) : Lits (w.alloc (.cells cs 9)) w.heap.size m L := by
  intro j hj
  obtain ⟨s, hs⟩ : ∃ s, (strs cs)[j]? = some s := ⟨_, List.getElem?_eq_getElem (by omega)⟩
  refine ⟨s, ?_, hl s (List.mem_of_getElem? hs)⟩
  rw [(Blk.new w 9 cs).cell j, h]
  simp [hs]

theorem below_at {w w' : World} (h : Below w.heap.size w w') (g : Nat) : w.grownBy w' (some g) := ⟨h.os, h.tape, h.output, h.size, fun k hk _ => h.block k hk⟩

/-- A draw of one of some texts that stand there. -/
theorem of_lit (r : Nat) (A : Option Addr) (n c p : Nat) (cs : Array Value) (m L : Nat) (w : World) (hR : Rd w r A n c p) (hp : p ≤ 1000000) (h : cs = ((strs cs).map Value.string).toArray) (hm : (strs cs).length = m) (hl : ∀ s ∈ strs cs, s.size ≤ L) (h1 : (decide (1 ≤ m) && decide (m ≤ 1000)) = true := by decide) :
    Calls Tryz.prog 64 #[.pointer (some ⟨r, 0, none⟩), .slice (some ⟨w.heap.size, 0, none⟩) m m] (w.alloc (.cells cs 9)) (DrawnPost w r A n c p 1 L) := by
  have hb : Below w.heap.size w (w.alloc (.cells cs 9)) := (Below.refl _ _).alloc (Nat.le_refl _) _
  simp only [Bool.and_eq_true, decide_eq_true_eq] at h1
  refine (of_any r A n c p w.heap.size m m L _ h1.1 h1.2 hp (hR.grown hb) (by have := hR.blk.lt; omega) (lits_new w cs m L h hm hl)).mono ?_
  rintro e w' ⟨s, q, rfl, hs, hq, hg, hr⟩
  exact ⟨s, q, rfl, hs, hq, grown_trans (below_at hb r) hg, hr⟩

theorem dec_len (n : Nat) (h : n < 100) : (dec n).length ≤ 3 := by
  have hd : ∀ n, n < 100 → (dec n).length ≤ 3 := by decide +kernel
  exact hd n h

/-- How far a draw of so much depth goes, and how long its text is. -/
def bnd : Nat → Nat
  | 0 => 8
  | N + 1 => 5 * bnd N + 40

theorem bnd_ge (N : Nat) : 8 ≤ bnd N := by
  cases N with
  | zero => exact Nat.le_refl _
  | succ N => unfold bnd; omega

/-- What l91Loose does at a depth of at most N. -/
def LooseSaid (N : Nat) : Prop := ∀ (r : Nat) (A : Option Addr) (n c p lams : Nat) (d : Int) (w : World), Rd w r A n c p → p + bnd N ≤ 900000 → bnd N ≤ 10000 → lams + N ≤ 40 → d ≤ N → -1000 ≤ d →
  Calls Tryz.prog 50 #[.pointer (some ⟨r, 0, none⟩), .int .i64 lams, .int .i64 d] w (DrawnPost w r A n c p (bnd N) (bnd N))

set_option maxHeartbeats 3200000 in
set_option maxRecDepth 100000 in
theorem loose_leaf (N : Nat) (r : Nat) (A : Option Addr) (n c p lams : Nat) (d : Int) (w : World) (hR : Rd w r A n c p) (hp : p + bnd N ≤ 900000) (hlN : lams + N ≤ 40) (hd0 : d ≤ 0) (_ : -1000 ≤ d) :
    Calls Tryz.prog 50 #[.pointer (some ⟨r, 0, none⟩), .int .i64 lams, .int .i64 d] w (DrawnPost w r A n c p (bnd N) (bnd N)) := by
  have hbn := bnd_ge N
  generalize bnd N = b at *
  have HR := Lib.hid hR
  have HG : Hid (w.grownBy w (some r)) := below_at (Below.refl _ _) r
  have d1 : decide (d ≤ 0) = true := by simp; omega
  clear hR
  go_enter Tryz.func50, Tryz.ntmps50
  by_cases hl0 : lams = 0
  · have d2 : decide ((lams : Int) > 0) = false := by simp; omega
    go_wp2_with fail
    refine Calls.mono (of_lit r A n c p _ _ 8 w HR.out (by omega) rfl rfl (by decide)) ?_
    rintro e wf ⟨sf, qf, rfl, hsf, hqf, hgf, hrf⟩
    have HGF := Lib.hid (grown_trans HG.out hgf)
    have HRF := Lib.hid hrf
    clear hgf hrf
    go_wp2_with fail
    go_ret
    exact ⟨sf, qf, rfl, by omega, by omega, HGF.out, HRF.out⟩
  · have d2 : decide ((lams : Int) > 0) = true := by simp; omega
    go_wp2_with fail
    refine (pick_any r A n c p 3 w (by omega) (by omega) HR.out).mono ?_
    rintro e wk ⟨k1, rfl, hk1, hgk, hrk⟩
    have HGK := Lib.hid (grown_trans HG.out hgk)
    have HRK := Lib.hid hrk
    clear hgk hrk
    by_cases hk0 : k1 = 0
    · have d3 : decide ((k1 : Int) > 0) = false := by simp; omega
      go_wp2_with fail
      refine Calls.mono (of_lit r A n c (p + 1) _ _ 8 wk HRK.out (by omega) rfl rfl (by decide)) ?_
      rintro e wf ⟨sf, qf, rfl, hsf, hqf, hgf, hrf⟩
      have HGF := Lib.hid (grown_trans HGK.out hgf)
      have HRF := Lib.hid hrf
      clear hgf hrf
      go_wp2_with fail
      go_ret
      exact ⟨sf, qf, rfl, by omega, by omega, HGF.out, HRF.out⟩
    · have d3 : decide ((k1 : Int) > 0) = true := by simp; omega
      go_wp2_with fail
      refine (pick_any r A n c (p + 1) lams wk (by omega) (by omega) HRK.out).mono ?_
      rintro e wm ⟨k2, rfl, hk2, hgm, hrm⟩
      have HGM := Lib.hid (grown_trans HGK.out hgm)
      have HRM := Lib.hid hrm
      clear hgm hrm
      go_wp2_with fail
      refine (l6Dec_small k2 (by omega) wm).mono ?_
      rintro e wd ⟨rfl, hbd⟩
      have hdl := dec_len k2 (by omega)
      have HGD := Lib.hid (grown_trans HGM.out (below_at hbd r))
      have HRD := Lib.hid (HRM.out.grown hbd)
      clear hbd
      go_wp2_with fail
      go_ret
      exact ⟨_, p + 1 + 1, rfl, by simp [ByteArray.size]; omega, by omega, HGD.out, HRD.out⟩

theorem str_len (a b : ByteArray) : (a ++ b).size = a.size + b.size := by simp

set_option maxHeartbeats 6400000 in
set_option maxRecDepth 100000 in
theorem loose_step (N : Nat) (IH : LooseSaid N) (r : Nat) (A : Option Addr) (n c p lams : Nat) (d : Int) (w : World) (hR : Rd w r A n c p) (hp : p + bnd (N + 1) ≤ 900000) (hb1 : bnd (N + 1) ≤ 10000) (hlN : lams + (N + 1) ≤ 40) (hd0 : 0 < d) (hd1 : d ≤ N + 1) :
    Calls Tryz.prog 50 #[.pointer (some ⟨r, 0, none⟩), .int .i64 lams, .int .i64 d] w (DrawnPost w r A n c p (bnd (N + 1)) (bnd (N + 1))) := by
  have hbn := bnd_ge N
  rw [bnd] at hp hb1 ⊢
  have HI1 : Hid (∀ W P, Rd W r A n c P → P + bnd N ≤ 900000 → Calls Tryz.prog 50 #[.pointer (some ⟨r, 0, none⟩), .int .i64 ((lams : Int) + 1), .int .i64 (d - 1)] W (DrawnPost W r A n c P (bnd N) (bnd N))) :=
    fun W P h1 h2 => IH r A n c P (lams + 1) (d - 1) W h1 h2 (by omega) (by omega) (by omega) (by omega)
  have HI2 : Hid (∀ W P, Rd W r A n c P → P + bnd N ≤ 900000 → Calls Tryz.prog 50 #[.pointer (some ⟨r, 0, none⟩), .int .i64 lams, .int .i64 (d - 1)] W (DrawnPost W r A n c P (bnd N) (bnd N))) :=
    fun W P h1 h2 => IH r A n c P lams (d - 1) W h1 h2 (by omega) (by omega) (by omega) (by omega)
  have HI3 : Hid (∀ W P (k : Nat), k < 2 → Rd W r A n c P → P + bnd N ≤ 900000 → Calls Tryz.prog 50 #[.pointer (some ⟨r, 0, none⟩), .int .i64 lams, .int .i64 (d - 1 - (k : Int))] W (DrawnPost W r A n c P (bnd N) (bnd N))) :=
    fun W P k hk h1 h2 => IH r A n c P lams (d - 1 - (k : Int)) W h1 h2 (by omega) (by omega) (by omega) (by omega)
  have hdN : d ≤ 41 := by omega
  clear IH
  generalize bnd N = b at *
  obtain ⟨G, hG0, hG1, hG2⟩ : ∃ G : Nat → Nat, G 0 = 0 ∧ (∀ j, G (j + 1) = G j + (b + 2)) ∧ ∀ j, j ≤ 3 → G j ≤ 3 * (b + 2) :=
    ⟨fun j => j * (b + 2), by simp, fun j => by show (j + 1) * (b + 2) = j * (b + 2) + (b + 2); rw [Nat.add_mul]; omega, fun j hj => Nat.mul_le_mul_right _ hj⟩
  have HG1 := Lib.hid hG1
  have HG2 := Lib.hid hG2
  have HR := Lib.hid hR
  have d1 : decide (d ≤ 0) = false := by simp; omega
  have z32 : (⟨#[32]⟩ : ByteArray).size = 1 := rfl
  have z41 : (⟨#[41]⟩ : ByteArray).size = 1 := rfl
  have z42 : (⟨#[41, 41]⟩ : ByteArray).size = 2 := rfl
  have z5 : (⟨#[40, 97, 112, 112, 32]⟩ : ByteArray).size = 5 := rfl
  have z6 : (⟨#[40, 108, 97, 109, 32]⟩ : ByteArray).size = 5 := rfl
  have z2 : (⟨#[40, 109]⟩ : ByteArray).size = 2 := rfl
  clear hR hG1 hG2
  go_enter Tryz.func50, Tryz.ntmps50
  go_wp2_with fail
  refine (pick_any r A n c p 4 w (by omega) (by omega) HR.out).mono ?_
  rintro e w1 ⟨k0, rfl, hk0, hg1, hr1⟩
  have HGA := Lib.hid hg1
  have HRA := Lib.hid hr1
  clear hg1 hr1
  by_cases h0 : k0 = 0
  · have d4 : ((k0 : Int) == 0) = true := by simp; omega
    by_cases hl0 : lams = 0
    · have d2 : decide ((lams : Int) > 0) = false := by simp; omega
      go_wp2_with fail
      refine Calls.mono (of_lit r A n c (p + 1) _ _ 8 w1 HRA.out (by omega) rfl rfl (by decide)) ?_
      rintro e wf ⟨sf, qf, rfl, hsf, hqf, hgf, hrf⟩
      have HGF := Lib.hid (grown_trans HGA.out hgf)
      have HRF := Lib.hid hrf
      clear hgf hrf
      go_wp2_with fail
      go_ret
      exact ⟨sf, qf, rfl, by omega, by omega, HGF.out, HRF.out⟩
    · have d2 : decide ((lams : Int) > 0) = true := by simp; omega
      go_wp2_with fail
      refine (pick_any r A n c (p + 1) 3 w1 (by omega) (by omega) HRA.out).mono ?_
      rintro e wk ⟨k1, rfl, hk1, hgk, hrk⟩
      have HGK := Lib.hid (grown_trans HGA.out hgk)
      have HRK := Lib.hid hrk
      clear hgk hrk
      by_cases hk0 : k1 = 0
      · have d3 : decide ((k1 : Int) > 0) = false := by simp; omega
        go_wp2_with fail
        refine Calls.mono (of_lit r A n c ((p + 1) + 1) _ _ 8 wk HRK.out (by omega) rfl rfl (by decide)) ?_
        rintro e wf ⟨sf, qf, rfl, hsf, hqf, hgf, hrf⟩
        have HGF := Lib.hid (grown_trans HGK.out hgf)
        have HRF := Lib.hid hrf
        clear hgf hrf
        go_wp2_with fail
        go_ret
        exact ⟨sf, qf, rfl, by omega, by omega, HGF.out, HRF.out⟩
      · have d3 : decide ((k1 : Int) > 0) = true := by simp; omega
        go_wp2_with fail
        refine (pick_any r A n c ((p + 1) + 1) lams wk (by omega) (by omega) HRK.out).mono ?_
        rintro e wm ⟨k2, rfl, hk2, hgm, hrm⟩
        have HGM := Lib.hid (grown_trans HGK.out hgm)
        have HRM := Lib.hid hrm
        clear hgm hrm
        go_wp2_with fail
        refine (l6Dec_small k2 (by omega) wm).mono ?_
        rintro e wd ⟨rfl, hbd⟩
        have hdl := dec_len k2 (by omega)
        have HGD := Lib.hid (grown_trans HGM.out (below_at hbd r))
        have HRD := Lib.hid (HRM.out.grown hbd)
        clear hbd
        go_wp2_with fail
        go_ret
        exact ⟨_, (p + 1) + 1 + 1, rfl, by simp [ByteArray.size]; omega, by omega, HGD.out, HRD.out⟩
  · have d4 : ((k0 : Int) == 0) = false := by simp; omega
    go_wp2_with fail
    refine (pick_any r A n c (p + 1) 3 w1 (by omega) (by omega) HRA.out).mono ?_
    rintro e w2 ⟨k3, rfl, hk3, hg2, hr2⟩
    have HGB := Lib.hid (grown_trans HGA.out hg2)
    have HRB := Lib.hid hr2
    clear hg2 hr2
    by_cases h3 : k3 = 0
    · have d5 : ((k3 : Int) == 0) = true := by simp; omega
      go_wp2_with fail
      refine (HI1.out w2 (p + 1 + 1) HRB.out (by omega)).mono ?_
      rintro e w3 ⟨s3, q3, rfl, hs3, hq3, hg3, hr3⟩
      have HGC := Lib.hid (grown_trans HGB.out hg3)
      have HRC := Lib.hid hr3
      clear hg3 hr3
      go_wp2_with fail
      go_ret
      exact ⟨_, q3, rfl, by simp only [str_len, z6, z41]; omega, by omega, HGC.out, HRC.out⟩
    · have d5 : ((k3 : Int) == 0) = false := by simp; omega
      go_wp2_with fail
      refine (pick_any r A n c (p + 1 + 1) 4 w2 (by omega) (by omega) HRB.out).mono ?_
      rintro e w3 ⟨k, rfl, hk, hg3, hr3⟩
      have HGC := Lib.hid (grown_trans HGB.out hg3)
      have HRC := Lib.hid hr3
      clear hg3 hr3
      have hk4 : k ≤ 3 := by omega
      go_wp2_with fail
      go_loopw [7, 9] (fun bv iv wr => ∃ (j q : Nat) (sb : ByteArray), j ≤ k ∧ iv = .int .i64 j ∧ bv = .string sb ∧ sb.size ≤ 2 + G j ∧ q ≤ p + 3 + G j ∧ Hid (w.grownBy wr (some r)) ∧ Hid (Rd wr r A n c q)) (fun _ iv _ => k - (intOf iv).toNat)
      case atStart => exact ⟨0, p + 1 + 1 + 1, _, Nat.zero_le _, rfl, rfl, by rw [hG0, z2]; omega, by omega, HGC.out, HRC.out⟩
      case round =>
        obtain ⟨j, q, sb, hj, rfl, rfl, hsb, hq, hgr, hrr⟩ := hrel
        have hGj := HG2.out j (by omega)
        by_cases hjk : j < k
        · have hGs := HG1.out j
          have hGj' := HG2.out (j + 1) (by omega)
          go_wp2_with fail
          refine (pick_any r A n c q 2 wr (by omega) (by omega) hrr.out).mono ?_
          rintro e wa ⟨k2, rfl, hk2, hga, hra⟩
          have HGD := Lib.hid (grown_trans hgr.out hga)
          have HRD := Lib.hid hra
          clear hga hra
          go_wp2_with fail
          refine (HI3.out wa (q + 1) k2 (by omega) HRD.out (by omega)).mono ?_
          rintro e wb ⟨s4, q4, rfl, hs4, hq4, hg4, hr4⟩
          have HGE := Lib.hid (grown_trans HGD.out hg4)
          have HRE := Lib.hid hr4
          clear hg4 hr4
          go_wp2_with fail
          go_roundw
          case rel => exact ⟨j + 1, q4, _, by omega, by go_num, rfl, by simp only [str_len, z32]; omega, by omega, HGE.out, HRE.out⟩
          case measure => simp [intOf]; omega
        · obtain rfl : j = k := by omega
          go_wp2_with fail
          refine (HI2.out wr q hrr.out (by omega)).mono ?_
          rintro e wb ⟨s4, q4, rfl, hs4, hq4, hg4, hr4⟩
          have HGE := Lib.hid (grown_trans hgr.out hg4)
          have HRE := Lib.hid hr4
          clear hg4 hr4
          go_wp2_with fail
          go_ret
          exact ⟨_, q4, rfl, by simp only [str_len, z5, z32, z42]; omega, by omega, HGE.out, HRE.out⟩

theorem looseSaid : ∀ N, LooseSaid N
  | 0 => fun r A n c p lams d w h1 h2 _ h4 h5 h6 => loose_leaf 0 r A n c p lams d w h1 h2 h4 (by simpa using h5) h6
  | N + 1 => fun r A n c p lams d w h1 h2 h3 h4 h5 h6 => by
    by_cases hd : d ≤ 0
    · exact loose_leaf (N + 1) r A n c p lams d w h1 h2 h4 hd h6
    · exact loose_step N (looseSaid N) r A n c p lams d w h1 h2 h3 h4 (by omega) (by simpa using h5)

end Go.Proofs.YtgekmihjhphloaaGreatDoor
