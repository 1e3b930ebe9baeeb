/- The draws of the laws: l91Loose draws the text of a term. -/
import Derived.Test.YthlenhnioocbgaaGreatDoorDrE
import Derived.Test.YthlenhnioocbgaaGreatDoorFnA
namespace Go.Proofs.YthlenhnioocbgaaGreatDoor
open Go.RowKit Rt

theorem dtext_nm (a : B) : text (.nm a) = a := by simp [text, ofTerm, textT]
theorem dtext_ix (k : Nat) : text (.ix k) = dec k := by simp [text, ofTerm, textT]
theorem text_of_lam (t : Term) : text (.lam t) = [40, 108, 97, 109, 32] ++ text t ++ [41] := by simp [text, ofTerm, textT, textL, sLam]

/-- A bag that is open yet. -/
def bagO : List Term → B
  | [] => [40, 109]
  | l => [40, 109] ++ (l.map fun u => 32 :: text u).flatten

theorem bagO_eq (l : List Term) : bagO l = [40, 109] ++ (l.map fun u => 32 :: text u).flatten := by cases l <;> simp [bagO]
theorem bagO_snoc (l : List Term) (u : Term) : bagO (l ++ [u]) = bagO l ++ [32] ++ text u := by
  rw [bagO_eq, bagO_eq]; simp
theorem textL_cons (x : Tree) : ∀ l : List Term, textL (x :: ofTerms l) = textT x ++ (l.map fun u => 32 :: text u).flatten
  | [] => by simp [ofTerms, textL]
  | u :: l => by
    rw [ofTerms, textL, textL_cons (ofTerm u) l]
    simp [text]
theorem bagT_open (l : List Term) : bagT l = bagO l ++ [41] := by
  rw [bagO_eq]
  unfold bagT
  rw [textT, textL_cons]
  simp [textT, sM]

/-- What a draw of the text of a term within so many lam does: of a size of at most K. -/
def DrawnTerm (w : World) (r : Nat) (A : Option Addr) (n c p K Z lams : Nat) (e : Ending) (w' : World) : Prop :=
  ∃ (t : Term) (q : Nat), e = .returned (.string ⟨(text t).toArray⟩) ∧ ok lams t = true ∧ size t ≤ Z ∧ q ≤ p + K ∧ w.grownBy w' (some r) ∧ Rd w' r A n c q

/-- What a draw of a name out of some does. -/
def DrawnName (w : World) (r : Nat) (A : Option Addr) (n c p : Nat) (e : Ending) (w' : World) : Prop :=
  ∃ (a : B) (q : Nat), e = .returned (.string ⟨a.toArray⟩) ∧ isName a = true ∧ q ≤ p + 1 ∧ w.grownBy w' (some r) ∧ Rd w' r A n c q

set_option maxHeartbeats 1600000 in
set_option maxRecDepth 100000 in
theorem of_names (r : Nat) (A : Option Addr) (n c p g m cc : Nat) (w : World) (h1 : 1 ≤ m) (hm : m ≤ 1000) (hp : p ≤ 1000000) (hR : Rd w r A n c p) (hg : g ≠ r) (hl : ∀ j, j < m → ∃ a : B, w.cell? ⟨g, j, none⟩ = some (.string ⟨a.toArray⟩) ∧ isName a = true) :
    Calls Tryz.prog 75 #[.pointer (some ⟨r, 0, none⟩), .slice (some ⟨g, 0, none⟩) m cc] w (DrawnName w r A n c p) := by
  have HC := Lib.hid (pick_any r A n c p m w hm hp hR)
  have HL := Lib.hid hl
  clear hR hl
  go_enter Tryz.func75, Tryz.ntmps75
  go_wp2_with fail
  refine HC.out.mono ?_
  rintro e w1 ⟨k, rfl, hk, hg1, hR1⟩
  have hkm : k < m := by omega
  obtain ⟨a, e0, hs⟩ := HL.out k hkm
  have e1 := cell_grown hg1 hg e0
  have HG := Lib.hid hg1
  have HR := Lib.hid hR1
  clear hg1 hR1 e0
  go_wp2_with fail
  go_ret
  exact ⟨a, p + 1, rfl, hs, by omega, HG.out, HR.out⟩

theorem of_nms (r : Nat) (A : Option Addr) (n c p : Nat) (cs : Array Value) (m : Nat) (w : World) (hR : Rd w r A n c p) (hp : p ≤ 1000000) (h : cs = ((strs cs).map Value.string).toArray) (hm : (strs cs).length = m) (hl : ∀ s ∈ strs cs, isName s.data.toList = true) (h1 : (decide (1 ≤ m) && decide (m ≤ 1000)) = true := by decide) :
    Calls Tryz.prog 75 #[.pointer (some ⟨r, 0, none⟩), .slice (some ⟨w.heap.size, 0, none⟩) m m] (w.alloc (.cells cs 9)) (DrawnName w r A n c p) := by
  have hb : Below w.heap.size w (w.alloc (.cells cs 9)) := (Below.refl _ _).alloc (Nat.le_refl _) _
  simp only [Bool.and_eq_true, decide_eq_true_eq] at h1
  refine (of_names r A n c p w.heap.size m m _ h1.1 h1.2 hp (hR.grown hb) (by have := hR.blk.lt; omega) (fun j hj => ?_)).mono ?_
  · obtain ⟨s, hs⟩ : ∃ s, (strs cs)[j]? = some s := ⟨_, List.getElem?_eq_getElem (by omega)⟩
    refine ⟨s.data.toList, ?_, hl s (List.mem_of_getElem? hs)⟩
    rw [(Blk.new w 9 cs).cell j, h]
    simp [hs]
  · rintro e w' ⟨s, q, rfl, hs, hq, hg, hr⟩
    exact ⟨s, q, rfl, hs, hq, grown_trans (below_at hb r) hg, hr⟩

/-- How large a term of so much depth is. -/
def bz : Nat → Nat
  | 0 => 1
  | N + 1 => 4 * bz N + 1

theorem bz_ge (N : Nat) : 1 ≤ bz N := by
  cases N with
  | zero => exact Nat.le_refl _
  | succ N => unfold bz; omega

/-- What l91Loose draws at a depth of at most N. -/
def LooseT (N : Nat) : Prop := ∀ (r : Nat) (A : Option Addr) (n c p lams : Nat) (d : Int) (w : World), Rd w r A n c p → p + bnd N ≤ 900000 → bnd N ≤ 10000 → bz N ≤ 10000 → lams + N ≤ 40 → d ≤ N → -1000 ≤ d →
  Calls Tryz.prog 45 #[.pointer (some ⟨r, 0, none⟩), .int .i64 lams, .int .i64 d] w (DrawnTerm w r A n c p (bnd N) (bz N) lams)

set_option maxHeartbeats 3200000 in
set_option maxRecDepth 100000 in
theorem looseT_leaf (N : Nat) (r : Nat) (A : Option Addr) (n c p lams : Nat) (d : Int) (w : World) (hR : Rd w r A n c p) (hp : p + bnd N ≤ 900000) (hlN : lams + N ≤ 40) (hd0 : d ≤ 0) (_ : -1000 ≤ d) :
    Calls Tryz.prog 45 #[.pointer (some ⟨r, 0, none⟩), .int .i64 lams, .int .i64 d] w (DrawnTerm w r A n c p (bnd N) (bz N) lams) := by
  have hbn := bnd_ge N
  have hzn := bz_ge N
  generalize bz N = Z at *
  generalize bnd N = b at *
  have HR := Lib.hid hR
  have HG : Hid (w.grownBy w (some r)) := below_at (Below.refl _ _) r
  have d1 : decide (d ≤ 0) = true := by simp; omega
  clear hR
  go_enter Tryz.func45, Tryz.ntmps45
  by_cases hl0 : lams = 0
  · have d2 : decide ((lams : Int) > 0) = false := by simp; omega
    go_wp2_with fail
    refine Calls.mono (of_nms r A n c p _ _ w HR.out (by omega) rfl rfl (by decide)) ?_
    rintro e wf ⟨af, qf, rfl, hsf, hqf, hgf, hrf⟩
    have HGF := Lib.hid (grown_trans HG.out hgf)
    have HRF := Lib.hid hrf
    clear hgf hrf
    go_wp2_with fail
    go_ret
    exact ⟨.nm af, qf, by rw [dtext_nm]; rfl, by rw [ok]; exact hsf, by rw [Rt.size]; omega, by omega, HGF.out, HRF.out⟩
  · have d2 : decide ((lams : Int) > 0) = true := by simp; omega
    go_wp2_with fail
    refine (pick_any r A n c p 3 w (by omega) (by omega) HR.out).mono ?_
    rintro e wk ⟨k1, rfl, hk1, hgk, hrk⟩
    have HGK := Lib.hid (grown_trans HG.out hgk)
    have HRK := Lib.hid hrk
    clear hgk hrk
    by_cases hk0 : k1 = 0
    · have d3 : decide ((k1 : Int) > 0) = false := by simp; omega
      go_wp2_with fail
      refine Calls.mono (of_nms r A n c (p + 1) _ _ wk HRK.out (by omega) rfl rfl (by decide)) ?_
      rintro e wf ⟨af, qf, rfl, hsf, hqf, hgf, hrf⟩
      have HGF := Lib.hid (grown_trans HGK.out hgf)
      have HRF := Lib.hid hrf
      clear hgf hrf
      go_wp2_with fail
      go_ret
      exact ⟨.nm af, qf, by rw [dtext_nm]; rfl, by rw [ok]; exact hsf, by rw [Rt.size]; omega, by omega, HGF.out, HRF.out⟩
    · have d3 : decide ((k1 : Int) > 0) = true := by simp; omega
      go_wp2_with fail
      refine (pick_any r A n c (p + 1) lams wk (by omega) (by omega) HRK.out).mono ?_
      rintro e wm ⟨k2, rfl, hk2, hgm, hrm⟩
      have HGM := Lib.hid (grown_trans HGK.out hgm)
      have HRM := Lib.hid hrm
      clear hgm hrm
      go_wp2_with fail
      refine (l6Dec_small k2 (by omega) wm).mono ?_
      rintro e wd ⟨rfl, hbd⟩
      have hdl := dec_len k2 (by omega)
      have HGD := Lib.hid (grown_trans HGM.out (below_at hbd r))
      have HRD := Lib.hid (HRM.out.grown hbd)
      clear hbd
      go_wp2_with fail
      go_ret
      exact ⟨.ix k2, p + 1 + 1, by rw [dtext_ix]; rfl, by simp only [ok, decide_eq_true_eq]; omega, by rw [Rt.size]; omega, by omega, HGD.out, HRD.out⟩

theorem bytes_three (a b c : B) : (⟨a.toArray⟩ : ByteArray) ++ ⟨b.toArray⟩ ++ ⟨c.toArray⟩ = ⟨(a ++ b ++ c).toArray⟩ := by
  apply ByteArray.ext
  apply Array.ext'
  simp [ByteArray.data_append]

theorem bytes_app (a b : B) : (((⟨#[40, 97, 112, 112, 32]⟩ : ByteArray) ++ ⟨a.toArray⟩ ++ ⟨#[32]⟩) ++ ⟨b.toArray⟩) ++ ⟨#[41, 41]⟩ = ⟨([40, 97, 112, 112, 32] ++ a ++ [32] ++ (b ++ [41]) ++ [41]).toArray⟩ := by
  apply ByteArray.ext
  apply Array.ext'
  simp [ByteArray.data_append]

theorem oks_snoc (k : Nat) (l : List Term) (t : Term) (h : oks k l = true) (ht : ok k t = true) : oks k (l ++ [t]) = true := by
  rw [oks_mem] at h ⊢
  intro u hu
  rcases List.mem_append.1 hu with hu | hu
  · exact h u hu
  · simp at hu; subst hu; exact ht

theorem sizes_snoc (l : List Term) (t : Term) : sizes (l ++ [t]) = sizes l + size t := by
  rw [sizes_sum, sizes_sum]; simp

theorem bagO_len (k : Nat) (l : List Term) (h : oks k l = true) : (bagO l).length ≤ 2 + 12 * sizes l := by
  have h1 := texts_size k l h
  rw [bagO_eq, List.length_append]
  have : (l.map fun u => 32 :: text u).flatten.length = (l.map fun u => (text u).length + 1).sum := by
    rw [List.length_flatten, List.map_map]
    rfl
  rw [this]
  simp
  omega

set_option maxHeartbeats 6400000 in
set_option maxRecDepth 100000 in
theorem looseT_step (N : Nat) (IH : LooseT N) (r : Nat) (A : Option Addr) (n c p lams : Nat) (d : Int) (w : World) (hR : Rd w r A n c p) (hp : p + bnd (N + 1) ≤ 900000) (hb1 : bnd (N + 1) ≤ 10000) (hb2 : bz (N + 1) ≤ 10000) (hlN : lams + (N + 1) ≤ 40) (hd0 : 0 < d) (hd1 : d ≤ N + 1) :
    Calls Tryz.prog 45 #[.pointer (some ⟨r, 0, none⟩), .int .i64 lams, .int .i64 d] w (DrawnTerm w r A n c p (bnd (N + 1)) (bz (N + 1)) lams) := by
  have hbn := bnd_ge N
  have hzn := bz_ge N
  rw [bnd] at hp hb1 ⊢
  rw [bz] at hb2 ⊢
  have HI1 : Hid (∀ W P, Rd W r A n c P → P + bnd N ≤ 900000 → Calls Tryz.prog 45 #[.pointer (some ⟨r, 0, none⟩), .int .i64 ((lams : Int) + 1), .int .i64 (d - 1)] W (DrawnTerm W r A n c P (bnd N) (bz N) (lams + 1))) :=
    fun W P h1 h2 => IH r A n c P (lams + 1) (d - 1) W h1 h2 (by omega) (by omega) (by omega) (by omega) (by omega)
  have HI2 : Hid (∀ W P, Rd W r A n c P → P + bnd N ≤ 900000 → Calls Tryz.prog 45 #[.pointer (some ⟨r, 0, none⟩), .int .i64 lams, .int .i64 (d - 1)] W (DrawnTerm W r A n c P (bnd N) (bz N) lams)) :=
    fun W P h1 h2 => IH r A n c P lams (d - 1) W h1 h2 (by omega) (by omega) (by omega) (by omega) (by omega)
  have HI3 : Hid (∀ W P (k : Nat), k < 2 → Rd W r A n c P → P + bnd N ≤ 900000 → Calls Tryz.prog 45 #[.pointer (some ⟨r, 0, none⟩), .int .i64 lams, .int .i64 (d - 1 - (k : Int))] W (DrawnTerm W r A n c P (bnd N) (bz N) lams)) :=
    fun W P k hk h1 h2 => IH r A n c P lams (d - 1 - (k : Int)) W h1 h2 (by omega) (by omega) (by omega) (by omega) (by omega)
  have hdN : d ≤ 41 := by omega
  clear IH
  generalize bnd N = b at *
  generalize bz N = Z at *
  obtain ⟨H, hH0, hH1, hH2⟩ : ∃ H : Nat → Nat, H 0 = 0 ∧ (∀ j, H (j + 1) = H j + Z) ∧ ∀ j, j ≤ 3 → H j ≤ 3 * Z :=
    ⟨fun j => j * Z, by simp, fun j => by show (j + 1) * Z = j * Z + Z; rw [Nat.add_mul]; omega, fun j hj => Nat.mul_le_mul_right _ hj⟩
  have HH1 := Lib.hid hH1
  have HH2 := Lib.hid hH2
  clear hH1 hH2
  obtain ⟨G, hG0, hG1, hG2⟩ : ∃ G : Nat → Nat, G 0 = 0 ∧ (∀ j, G (j + 1) = G j + (b + 2)) ∧ ∀ j, j ≤ 3 → G j ≤ 3 * (b + 2) :=
    ⟨fun j => j * (b + 2), by simp, fun j => by show (j + 1) * (b + 2) = j * (b + 2) + (b + 2); rw [Nat.add_mul]; omega, fun j hj => Nat.mul_le_mul_right _ hj⟩
  have HG1 := Lib.hid hG1
  have HG2 := Lib.hid hG2
  have HR := Lib.hid hR
  have d1 : decide (d ≤ 0) = false := by simp; omega
  have z32 : (⟨#[32]⟩ : ByteArray).size = 1 := rfl
  have z41 : (⟨#[41]⟩ : ByteArray).size = 1 := rfl
  have z42 : (⟨#[41, 41]⟩ : ByteArray).size = 2 := rfl
  have z5 : (⟨#[40, 97, 112, 112, 32]⟩ : ByteArray).size = 5 := rfl
  have z6 : (⟨#[40, 108, 97, 109, 32]⟩ : ByteArray).size = 5 := rfl
  have z2 : (⟨#[40, 109]⟩ : ByteArray).size = 2 := rfl
  clear hR hG1 hG2
  go_enter Tryz.func45, Tryz.ntmps45
  go_wp2_with fail
  refine (pick_any r A n c p 4 w (by omega) (by omega) HR.out).mono ?_
  rintro e w1 ⟨k0, rfl, hk0, hg1, hr1⟩
  have HGA := Lib.hid hg1
  have HRA := Lib.hid hr1
  clear hg1 hr1
  by_cases h0 : k0 = 0
  · have d4 : ((k0 : Int) == 0) = true := by simp; omega
    by_cases hl0 : lams = 0
    · have d2 : decide ((lams : Int) > 0) = false := by simp; omega
      go_wp2_with fail
      refine Calls.mono (of_nms r A n c (p + 1) _ _ w1 HRA.out (by omega) rfl rfl (by decide)) ?_
      rintro e wf ⟨af, qf, rfl, hsf, hqf, hgf, hrf⟩
      have HGF := Lib.hid (grown_trans HGA.out hgf)
      have HRF := Lib.hid hrf
      clear hgf hrf
      go_wp2_with fail
      go_ret
      exact ⟨.nm af, qf, by rw [dtext_nm]; rfl, by rw [ok]; exact hsf, by rw [Rt.size]; omega, by omega, HGF.out, HRF.out⟩
    · have d2 : decide ((lams : Int) > 0) = true := by simp; omega
      go_wp2_with fail
      refine (pick_any r A n c (p + 1) 3 w1 (by omega) (by omega) HRA.out).mono ?_
      rintro e wk ⟨k1, rfl, hk1, hgk, hrk⟩
      have HGK := Lib.hid (grown_trans HGA.out hgk)
      have HRK := Lib.hid hrk
      clear hgk hrk
      by_cases hk0 : k1 = 0
      · have d3 : decide ((k1 : Int) > 0) = false := by simp; omega
        go_wp2_with fail
        refine Calls.mono (of_nms r A n c ((p + 1) + 1) _ _ wk HRK.out (by omega) rfl rfl (by decide)) ?_
        rintro e wf ⟨af, qf, rfl, hsf, hqf, hgf, hrf⟩
        have HGF := Lib.hid (grown_trans HGK.out hgf)
        have HRF := Lib.hid hrf
        clear hgf hrf
        go_wp2_with fail
        go_ret
        exact ⟨.nm af, qf, by rw [dtext_nm]; rfl, by rw [ok]; exact hsf, by rw [Rt.size]; omega, by omega, HGF.out, HRF.out⟩
      · have d3 : decide ((k1 : Int) > 0) = true := by simp; omega
        go_wp2_with fail
        refine (pick_any r A n c ((p + 1) + 1) lams wk (by omega) (by omega) HRK.out).mono ?_
        rintro e wm ⟨k2, rfl, hk2, hgm, hrm⟩
        have HGM := Lib.hid (grown_trans HGK.out hgm)
        have HRM := Lib.hid hrm
        clear hgm hrm
        go_wp2_with fail
        refine (l6Dec_small k2 (by omega) wm).mono ?_
        rintro e wd ⟨rfl, hbd⟩
        have hdl := dec_len k2 (by omega)
        have HGD := Lib.hid (grown_trans HGM.out (below_at hbd r))
        have HRD := Lib.hid (HRM.out.grown hbd)
        clear hbd
        go_wp2_with fail
        go_ret
        exact ⟨.ix k2, (p + 1) + 1 + 1, by rw [dtext_ix]; rfl, by simp only [ok, decide_eq_true_eq]; omega, by rw [Rt.size]; omega, by omega, HGD.out, HRD.out⟩
  · have d4 : ((k0 : Int) == 0) = false := by simp; omega
    go_wp2_with fail
    refine (pick_any r A n c (p + 1) 3 w1 (by omega) (by omega) HRA.out).mono ?_
    rintro e w2 ⟨k3, rfl, hk3, hg2, hr2⟩
    have HGB := Lib.hid (grown_trans HGA.out hg2)
    have HRB := Lib.hid hr2
    clear hg2 hr2
    by_cases h3 : k3 = 0
    · have d5 : ((k3 : Int) == 0) = true := by simp; omega
      go_wp2_with fail
      refine (HI1.out w2 (p + 1 + 1) HRB.out (by omega)).mono ?_
      rintro e w3 ⟨t3, q3, rfl, ho3, hs3, hq3, hg3, hr3⟩
      have hz3 := text_size (lams + 1) t3 ho3
      have z3 : (⟨(text t3).toArray⟩ : ByteArray).size = (text t3).length := by simp [ByteArray.size]
      have HGC := Lib.hid (grown_trans HGB.out hg3)
      have HRC := Lib.hid hr3
      clear hg3 hr3
      go_wp2_with fail
      go_ret
      exact ⟨.lam t3, q3, by rw [text_of_lam]; exact congrArg (fun x => Ending.returned (.string x)) (bytes_three _ _ _), by rw [ok]; exact ho3, by rw [Rt.size]; omega, by omega, HGC.out, HRC.out⟩
    · have d5 : ((k3 : Int) == 0) = false := by simp; omega
      go_wp2_with fail
      refine (pick_any r A n c (p + 1 + 1) 4 w2 (by omega) (by omega) HRB.out).mono ?_
      rintro e w3 ⟨k, rfl, hk, hg3, hr3⟩
      have HGC := Lib.hid (grown_trans HGB.out hg3)
      have HRC := Lib.hid hr3
      clear hg3 hr3
      have hk4 : k ≤ 3 := by omega
      go_wp2_with fail
      go_loopw [7, 9] (fun bv iv wr => ∃ (j q : Nat) (us : List Term), j ≤ k ∧ iv = .int .i64 j ∧ bv = .string ⟨(bagO us).toArray⟩ ∧ Hid (oks lams us = true) ∧ sizes us ≤ H j ∧ q ≤ p + 3 + G j ∧ Hid (w.grownBy wr (some r)) ∧ Hid (Rd wr r A n c q)) (fun _ iv _ => k - (intOf iv).toNat)
      case atStart => exact ⟨0, p + 1 + 1 + 1, [], Nat.zero_le _, rfl, rfl, rfl, Nat.zero_le _, by omega, HGC.out, HRC.out⟩
      case round =>
        obtain ⟨j, q, us, hj, rfl, rfl, hou, hsu, hq, hgr, hrr⟩ := hrel
        have hHj := HH2.out j (by omega)
        have hHs := HH1.out j
        have zu := bagO_len lams us hou.out
        have zu2 : (⟨(bagO us).toArray⟩ : ByteArray).size = (bagO us).length := by simp [ByteArray.size]
        have hGj := HG2.out j (by omega)
        by_cases hjk : j < k
        · have hGs := HG1.out j
          have hGj' := HG2.out (j + 1) (by omega)
          go_wp2_with fail
          refine (pick_any r A n c q 2 wr (by omega) (by omega) hrr.out).mono ?_
          rintro e wa ⟨k2, rfl, hk2, hga, hra⟩
          have HGD := Lib.hid (grown_trans hgr.out hga)
          have HRD := Lib.hid hra
          clear hga hra
          go_wp2_with fail
          refine (HI3.out wa (q + 1) k2 (by omega) HRD.out (by omega)).mono ?_
          rintro e wb ⟨t4, q4, rfl, ho4, hs4, hq4, hg4, hr4⟩
          have hz4 := text_size lams t4 ho4
          have z4 : (⟨(text t4).toArray⟩ : ByteArray).size = (text t4).length := by simp [ByteArray.size]
          have HO4 := Lib.hid ho4
          clear ho4
          have HGE := Lib.hid (grown_trans HGD.out hg4)
          have HRE := Lib.hid hr4
          clear hg4 hr4
          go_wp2_with fail
          go_roundw
          case rel => exact ⟨j + 1, q4, us ++ [t4], by omega, by go_num, by rw [bagO_snoc]; exact congrArg Value.string (bytes_three _ _ _), oks_snoc lams us t4 hou.out HO4.out, by rw [sizes_snoc]; omega, by omega, HGE.out, HRE.out⟩
          case measure => simp [intOf]; omega
        · obtain rfl : j = k := by omega
          go_wp2_with fail
          refine (HI2.out wr q hrr.out (by omega)).mono ?_
          rintro e wb ⟨t4, q4, rfl, ho4, hs4, hq4, hg4, hr4⟩
          have hz4 := text_size lams t4 ho4
          have z4 : (⟨(text t4).toArray⟩ : ByteArray).size = (text t4).length := by simp [ByteArray.size]
          have HO4 := Lib.hid ho4
          clear ho4
          have HGE := Lib.hid (grown_trans hgr.out hg4)
          have HRE := Lib.hid hr4
          clear hg4 hr4
          go_wp2_with fail
          go_ret
          exact ⟨.app t4 us, q4, by rw [text_of_app, bagT_open]; exact congrArg (fun x => Ending.returned (.string x)) (bytes_app _ _), by rw [ok, HO4.out, hou.out]; rfl, by rw [Rt.size]; omega, by omega, HGE.out, HRE.out⟩

theorem looseT : ∀ N, LooseT N
  | 0 => fun r A n c p lams d w h1 h2 _ _ h4 h5 h6 => looseT_leaf 0 r A n c p lams d w h1 h2 h4 (by simpa using h5) h6
  | N + 1 => fun r A n c p lams d w h1 h2 h3 h3' h4 h5 h6 => by
    by_cases hd : d ≤ 0
    · exact looseT_leaf (N + 1) r A n c p lams d w h1 h2 h4 hd h6
    · exact looseT_step N (looseT N) r A n c p lams d w h1 h2 h3 h3' h4 (by omega) (by simpa using h5)

end Go.Proofs.YthlenhnioocbgaaGreatDoor
