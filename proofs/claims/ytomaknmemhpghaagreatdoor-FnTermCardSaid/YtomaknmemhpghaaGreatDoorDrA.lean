/- The draws of the laws: the reader, pick. The draws of the laws: pick, of, l6Open. The draws of the laws: of, l6Open. The draws of the laws: l91Loose. -/
import Derived.Test.YtomaknmemhpghaaGreatDoorSpecI
import Derived.Laws.BitsAllLaws
import Derived.Deep.RegionHeld
import Derived.Test.YtomaknmemhpghaaGreatDoorSpA
/-! The draws of the laws: the reader, pick. -/
namespace Go.Proofs.YtomaknmemhpghaaGreatDoor
open Go.RowKit Rt

/-- The bytes of a code in memory. -/
def Bytes (w : World) (A : Option Addr) (n : Nat) : Prop := ∀ j, j < n → ∃ (g o x : Nat), A = some ⟨g, o, none⟩ ∧ g < w.heap.size ∧ w.cell? ⟨g, o + j, none⟩ = some (.int .u8 x) ∧ x < 256

theorem u8_wf {z : Int} (h : (Lit.int .u8 z).wf = true) : 0 ≤ z ∧ z < 256 := by
  simp [Lit.wf, IntKind.min, IntKind.max, IntKind.bits, IntKind.signed] at h
  omega

/-- A reader of a code: its block, the bytes, the place. -/
structure Rd (w : World) (r : Nat) (A : Option Addr) (n c p : Nat) : Prop where
  blk : Blk w r 89 #[.slice A n c, .int .i64 p]
  le : n ≤ 2000
  bytes : ∀ j, j < n → ∃ (g o x : Nat), A = some ⟨g, o, none⟩ ∧ g ≠ r ∧ g < w.heap.size ∧ w.cell? ⟨g, o + j, none⟩ = some (.int .u8 x) ∧ x < 256

theorem Rd.grown {w w' : World} {r n c p : Nat} {A : Option Addr} (h : Rd w r A n c p) (hb : Below w.heap.size w w') : Rd w' r A n c p :=
  ⟨h.blk.below hb h.blk.lt, h.le, fun j hj => by
    obtain ⟨g, o, x, e, h1, h2, h3, h4⟩ := h.bytes j hj
    exact ⟨g, o, x, e, h1, Nat.lt_of_lt_of_le h2 hb.size, (hb.cell (p := ⟨g, o + j, none⟩) h2).trans h3, h4⟩⟩

theorem Rd.set_ {w : World} {r n c p : Nat} {A : Option Addr} (h : Rd w r A n c p) (q : Nat) : Rd (w.setCell ⟨r, 1, none⟩ (.int .i64 q)) r A n c q :=
  ⟨h.blk.set_ 1 _, h.le, fun j hj => by
    obtain ⟨g, o, x, e, h1, h2, h3, h4⟩ := h.bytes j hj
    refine ⟨g, o, x, e, h1, by simpa using h2, ?_, h4⟩
    exact (World.cell?_setCell_far w ⟨r, 1, none⟩ _ _ (fun e => h1 (Eq.symm e))).trans h3⟩

theorem xor_i64 (a b : Nat) (ha : a < 4294967296) (hb : b < 4294967296) : bits .xor .i64 (a : Int) (b : Int) = ((a ^^^ b : Nat) : Int) ∧ a ^^^ b < 4294967296 := by
  have hx : a ^^^ b < 2 ^ 32 := Nat.xor_lt_two_pow (by omega) (by omega)
  refine ⟨?_, by omega⟩
  show IntKind.i64.wrap ((BitVec.ofInt 64 (a : Int) ^^^ BitVec.ofInt 64 (b : Int)).toNat : Int) = _
  rw [BitVec.toNat_xor, ofInt_u64 a (by omega), ofInt_u64 b (by omega)]
  simp [IntKind.wrap, IntKind.bits, IntKind.signed]
  omega

/-- What a draw of a number does. -/
def PickPost (w : World) (r : Nat) (A : Option Addr) (n c p : Nat) (m : Nat) (e : Ending) (w' : World) : Prop :=
  ∃ k : Nat, e = .returned (.int .i64 k) ∧ (k < m ∨ k = 0) ∧ w.grownBy w' (some r) ∧ Rd w' r A n c (p + 1)

end Go.Proofs.YtomaknmemhpghaaGreatDoor

/-! The draws of the laws: pick, of, l6Open. -/
namespace Go.Proofs.YtomaknmemhpghaaGreatDoor
open Go.RowKit Rt

theorem grown_set {w : World} {r : Nat} (u : Value) : w.grownBy (w.setCell ⟨r, 1, none⟩ u) (some r) :=
  ⟨rfl, rfl, rfl, by simp, fun k _ hne => Below.heap_setCell w _ u k (by intro e; exact hne (by rw [e]))⟩

theorem grown_trans {w w1 w2 : World} {r : Nat} (h1 : w.grownBy w1 (some r)) (h2 : w1.grownBy w2 (some r)) : w.grownBy w2 (some r) :=
  ⟨h2.os.trans h1.os, h2.tape.trans h1.tape, h2.output.trans h1.output, Nat.le_trans h1.size h2.size, fun k hk hne => (h2.block k (Nat.lt_of_lt_of_le hk h1.size) hne).trans (h1.block k hk hne)⟩

set_option maxHeartbeats 1600000 in
set_option maxRecDepth 100000 in
theorem pick_any (r : Nat) (A : Option Addr) (n c p m : Nat) (w : World) (hm : m ≤ 1000) (hp : p ≤ 1000000) (hR : Rd w r A n c p) :
    Calls Tryz.prog 55 #[.pointer (some ⟨r, 0, none⟩), .int .i64 m] w (PickPost w r A n c p m) := by
  obtain ⟨p0, p1, p2, p3⟩ := blk_cells hR.blk
  have HR : Hid (Rd (w.setCell ⟨r, 1, none⟩ (.int .i64 ((p : Int) + 1))) r A n c (p + 1)) := hR.set_ (p + 1)
  have HG : Hid (w.grownBy (w.setCell ⟨r, 1, none⟩ (.int .i64 ((p : Int) + 1))) (some r)) := grown_set _
  have hn := hR.le
  obtain ⟨q0, q1, q2, q3⟩ := blk_cells HR.out.blk
  have q1' : (w.setCell ⟨r, 1, none⟩ (.int .i64 ((p : Int) + 1))).cell? ⟨r, 1, none⟩ = some (.int .i64 ((p : Int) + 1)) := q1
  clear q1 hR
  by_cases hm0 : m = 0
  · subst hm0
    go_enter Tryz.func55, Tryz.ntmps55
    go_wp2_with fail
    go_ret
    exact ⟨0, rfl, .inr rfl, HG.out, HR.out⟩
  · have hm1 : 1 ≤ m := by omega
    clear hm0
    by_cases hn0 : n = 0
    · subst hn0
      go_enter Tryz.func55, Tryz.ntmps55
      go_wp2_with fail
      go_ret
      exact ⟨0, rfl, .inr rfl, HG.out, HR.out⟩
    · have hn1 : 1 ≤ n := by omega
      clear hn0
      by_cases hpn : p < n
      · obtain ⟨g, o, x, rfl, h1, h2, h3, h4⟩ := HR.out.bytes p hpn
        obtain ⟨y, hy⟩ : ∃ y, y = x % m := ⟨_, rfl⟩
        have hym : y < m := by rw [hy]; exact Nat.mod_lt _ (by omega)
        have e1 : (x : Int).tmod (m : Int) = (y : Int) := by rw [Int.tmod_eq_emod_of_nonneg (by omega), hy]; rfl
        have d1 : decide ((m : Int) < 1) = false := by simp; omega
        have d2 : ((n : Int) == 0) = false := by simp; omega
        clear hy
        go_enter Tryz.func55, Tryz.ntmps55
        go_wp2_with fail
        go_ret
        exact ⟨y, rfl, .inl hym, HG.out, HR.out⟩
      · obtain ⟨i1, hi1⟩ : ∃ i, i = p % n := ⟨_, rfl⟩
        obtain ⟨i2, hi2⟩ : ∃ i, i = (p * 7 + 3) % n := ⟨_, rfl⟩
        obtain ⟨q, hq⟩ : ∃ i, i = p / n := ⟨_, rfl⟩
        have hl1 : i1 < n := by rw [hi1]; exact Nat.mod_lt _ (by omega)
        have hl2 : i2 < n := by rw [hi2]; exact Nat.mod_lt _ (by omega)
        have hql : q ≤ p := by rw [hq]; exact Nat.div_le_self _ _
        have e1 : (p : Int).tmod (n : Int) = (i1 : Int) := by rw [Int.tmod_eq_emod_of_nonneg (by omega), hi1]; rfl
        have e2 : ((p : Int) * 7 + 3).tmod (n : Int) = (i2 : Int) := by rw [Int.tmod_eq_emod_of_nonneg (by omega), hi2]; rfl
        have e3 : (p : Int).tdiv (n : Int) = (q : Int) := by rw [Int.tdiv_eq_ediv_of_nonneg (by omega), hq]; rfl
        have d1 : decide ((m : Int) < 1) = false := by simp; omega
        have d2 : ((n : Int) == 0) = false := by simp; omega
        clear hi1 hi2 hq
        obtain ⟨g, o, x1, rfl, h1, h2, h3, h4⟩ := HR.out.bytes i1 hl1
        obtain ⟨g', o', x2, e9, _, _, h5, h6⟩ := HR.out.bytes i2 hl2
        injection e9 with e9
        injection e9 with e9 e10
        subst e9
        subst e10
        go_enter Tryz.func55, Tryz.ntmps55
        go_wp2_with fail
        go_region
        obtain ⟨X, hX⟩ : ∃ X : Nat, X = x1 * 131 + x2 * 1117 + p * 29 + q * 53 := ⟨_, rfl⟩
        have hXl : X < 4294967296 := by omega
        have e4 : (x1 : Int) * 131 + (x2 : Int) * 1117 + (p : Int) * 29 + (q : Int) * 53 = (X : Int) := by rw [hX]; simp
        obtain ⟨z, hz⟩ : ∃ z : Nat, z = X / 64 := ⟨_, rfl⟩
        have hzl : z < 4294967296 := by omega
        have e5 : (X : Int).tdiv 64 = (z : Int) := by rw [Int.tdiv_eq_ediv_of_nonneg (by omega), hz]; rfl
        obtain ⟨e6, hYl⟩ := xor_i64 X z hXl hzl
        obtain ⟨Y, hY⟩ : ∃ Y : Nat, Y = X ^^^ z := ⟨_, rfl⟩
        rw [← hY] at e6 hYl
        obtain ⟨y, hy⟩ : ∃ y, y = Y % m := ⟨_, rfl⟩
        have hym : y < m := by rw [hy]; exact Nat.mod_lt _ (by omega)
        have e7 : (Y : Int).tmod (m : Int) = (y : Int) := by rw [Int.tmod_eq_emod_of_nonneg (by omega), hy]; rfl
        clear hX hz hY hy
        rw [e4]
        go_wp2_with fail
        go_ret
        exact ⟨y, rfl, .inl hym, ⟨HG.out.os, HG.out.tape, HG.out.output, HG.out.size, HG.out.block⟩, HR.out.grown (Below.refl _ _).drew⟩

end Go.Proofs.YtomaknmemhpghaaGreatDoor

/-! The draws of the laws: of, l6Open. -/
namespace Go.Proofs.YtomaknmemhpghaaGreatDoor
open Go.RowKit Rt

/-- What a draw of a text does: at most K places on, a text of at most L bytes. -/
def DrawnPost (w : World) (r : Nat) (A : Option Addr) (n c p K L : Nat) (e : Ending) (w' : World) : Prop :=
  ∃ (s : ByteArray) (q : Nat), e = .returned (.string s) ∧ s.size ≤ L ∧ q ≤ p + K ∧ w.grownBy w' (some r) ∧ Rd w' r A n c q

theorem drew_grown {w w1 : World} {row : Option Nat} (h : w.grownBy w1 row) : w.grownBy w1.drew row := ⟨h.os, h.tape, h.output, h.size, h.block⟩

theorem cell_grown {w w1 : World} {r g j : Nat} {x : Value} (h : w.grownBy w1 (some r)) (hg : g ≠ r) (e : w.cell? ⟨g, j, none⟩ = some x) : w1.cell? ⟨g, j, none⟩ = some x := by
  have hb := h.block g (World.block_lt_of_cell? w _ e) (by intro e; injection e with e; exact hg e)
  unfold World.cell? at e ⊢
  simp only at e ⊢
  rw [hb]
  exact e

/-- A row of texts, each of at most L bytes. -/
def Lits (w : World) (g m L : Nat) : Prop := ∀ j, j < m → ∃ s : ByteArray, w.cell? ⟨g, j, none⟩ = some (.string s) ∧ s.size ≤ L

set_option maxHeartbeats 1600000 in
set_option maxRecDepth 100000 in
theorem of_any (r : Nat) (A : Option Addr) (n c p g m cc L : Nat) (w : World) (h1 : 1 ≤ m) (hm : m ≤ 1000) (hp : p ≤ 1000000) (hR : Rd w r A n c p) (hg : g ≠ r) (hl : Lits w g m L) :
    Calls Tryz.prog 84 #[.pointer (some ⟨r, 0, none⟩), .slice (some ⟨g, 0, none⟩) m cc] w (DrawnPost w r A n c p 1 L) := by
  have HC := Lib.hid (pick_any r A n c p m w hm hp hR)
  have HL := Lib.hid hl
  clear hR hl
  go_enter Tryz.func84, Tryz.ntmps84
  go_wp2_with fail
  refine HC.out.mono ?_
  rintro e w1 ⟨k, rfl, hk, hg1, hR1⟩
  have hkm : k < m := by omega
  obtain ⟨s, e0, hs⟩ := HL.out k hkm
  have e1 := cell_grown hg1 hg e0
  have HG := Lib.hid hg1
  have HR := Lib.hid hR1
  clear hg1 hR1 e0
  go_wp2_with fail
  go_ret
  exact ⟨s, p + 1, rfl, hs, by omega, HG.out, HR.out⟩

/-- What the opening of a code does. -/
def OpenPost (w : World) (A : Option Addr) (c : Nat) (e : Ending) (w' : World) : Prop :=
  e = .returned (.pointer (some ⟨w.heap.size, 0, none⟩)) ∧ Below w.heap.size w w' ∧ ∃ m, Rd w' w.heap.size A m c 0

theorem bytes_rd {w : World} {A : Option Addr} {n c m : Nat} (h : Bytes w A n) (hm : m ≤ n) (h2 : m ≤ 2000) : Rd (w.alloc (.cells #[.slice A m c, .int .i64 0] 89)) w.heap.size A m c 0 :=
  ⟨Blk.new w _ _, h2, fun j hj => by
    obtain ⟨g, o, x, e, h1, h3, h4⟩ := h j (by omega)
    exact ⟨g, o, x, e, by omega, by simp; omega, cell_alloc h3 _, h4⟩⟩

set_option maxHeartbeats 1600000 in
set_option maxRecDepth 100000 in
theorem l6Open_any (A : Option Addr) (n c : Nat) (w : World) (hn : n ≤ maxLen) (hnc : n ≤ c) (hB : Bytes w A n) :
    Calls Tryz.prog 50 #[.slice A n c] w (OpenPost w A c) := by
  unfold maxLen at hn
  by_cases h : n ≤ 2000
  · have HR := Lib.hid (bytes_rd (c := c) hB (Nat.le_refl _) h)
    have d1 : decide ((n : Int) > 2000) = false := by simp; omega
    clear hB
    go_enter Tryz.func50, Tryz.ntmps50
    go_wp2_with fail
    go_ret
    exact ⟨rfl, (Below.refl _ _).alloc (Nat.le_refl _) _, n, HR.out⟩
  · obtain ⟨g, o, x, rfl, _⟩ := hB 0 (by omega)
    have HR := Lib.hid (bytes_rd (c := c) hB (m := 2000) (by omega) (Nat.le_refl _))
    have d1 : decide ((n : Int) > 2000) = true := by simp; omega
    clear hB
    go_enter Tryz.func50, Tryz.ntmps50
    go_wp2_with fail
    go_ret
    exact ⟨rfl, (Below.refl _ _).alloc (Nat.le_refl _) _, 2000, HR.out⟩

end Go.Proofs.YtomaknmemhpghaaGreatDoor

/-! The draws of the laws: l91Loose. -/
namespace Go.Proofs.YtomaknmemhpghaaGreatDoor
open Go.RowKit Rt

def strs (cs : Array Value) : List ByteArray := cs.toList.filterMap fun v => match v with | .string s => some s | _ => none

theorem lits_new (w : World) (cs : Array Value) (m L : Nat) (h : cs = ((strs cs).map Value.string).toArray) (hm : (strs cs).length = m) (hl : ∀ s ∈ strs cs, s.size ≤ L) : Lits (w.alloc (.cells cs 9)) w.heap.size m L := by
  intro j hj
  obtain ⟨s, hs⟩ : ∃ s, (strs cs)[j]? = some s := ⟨_, List.getElem?_eq_getElem (by omega)⟩
  refine ⟨s, ?_, hl s (List.mem_of_getElem? hs)⟩
  rw [(Blk.new w 9 cs).cell j, h]
  simp [hs]

theorem below_at {w w' : World} (h : Below w.heap.size w w') (g : Nat) : w.grownBy w' (some g) := ⟨h.os, h.tape, h.output, h.size, fun k hk _ => h.block k hk⟩

/-- A draw of one of some texts that stand there. -/
theorem of_lit (r : Nat) (A : Option Addr) (n c p : Nat) (cs : Array Value) (m L : Nat) (w : World) (hR : Rd w r A n c p) (hp : p ≤ 1000000) (h : cs = ((strs cs).map Value.string).toArray) (hm : (strs cs).length = m) (hl : ∀ s ∈ strs cs, s.size ≤ L) (h1 : (decide (1 ≤ m) && decide (m ≤ 1000)) = true := by decide) :
    Calls Tryz.prog 84 #[.pointer (some ⟨r, 0, none⟩), .slice (some ⟨w.heap.size, 0, none⟩) m m] (w.alloc (.cells cs 9)) (DrawnPost w r A n c p 1 L) := by
  have hb : Below w.heap.size w (w.alloc (.cells cs 9)) := (Below.refl _ _).alloc (Nat.le_refl _) _
  simp only [Bool.and_eq_true, decide_eq_true_eq] at h1
  refine (of_any r A n c p w.heap.size m m L _ h1.1 h1.2 hp (hR.grown hb) (by have := hR.blk.lt; omega) (lits_new w cs m L h hm hl)).mono ?_
  rintro e w' ⟨s, q, rfl, hs, hq, hg, hr⟩
  exact ⟨s, q, rfl, hs, hq, grown_trans (below_at hb r) hg, hr⟩

theorem dec_len (n : Nat) (h : n < 100) : (dec n).length ≤ 3 := by
  have hd : ∀ n, n < 100 → (dec n).length ≤ 3 := by decide +kernel
  exact hd n h

/-- How far a draw of so much depth goes, and how long its text is. -/
def bnd : Nat → Nat
  | 0 => 8
  | N + 1 => 5 * bnd N + 40

theorem bnd_ge (N : Nat) : 8 ≤ bnd N := by
  cases N with
  | zero => exact Nat.le_refl _
  | succ N => unfold bnd; omega

/-- What l91Loose does at a depth of at most N. -/
def LooseSaid (N : Nat) : Prop := ∀ (r : Nat) (A : Option Addr) (n c p lams : Nat) (d : Int) (w : World), Rd w r A n c p → p + bnd N ≤ 900000 → bnd N ≤ 10000 → lams + N ≤ 40 → d ≤ N → -1000 ≤ d →
  Calls Tryz.prog 56 #[.pointer (some ⟨r, 0, none⟩), .int .i64 lams, .int .i64 d] w (DrawnPost w r A n c p (bnd N) (bnd N))

set_option maxHeartbeats 3200000 in
set_option maxRecDepth 100000 in
theorem loose_leaf (N : Nat) (r : Nat) (A : Option Addr) (n c p lams : Nat) (d : Int) (w : World) (hR : Rd w r A n c p) (hp : p + bnd N ≤ 900000) (hlN : lams + N ≤ 40) (hd0 : d ≤ 0) (_ : -1000 ≤ d) :
    Calls Tryz.prog 56 #[.pointer (some ⟨r, 0, none⟩), .int .i64 lams, .int .i64 d] w (DrawnPost w r A n c p (bnd N) (bnd N)) := by
  have hbn := bnd_ge N
  generalize bnd N = b at *
  have HR := Lib.hid hR
  have HG : Hid (w.grownBy w (some r)) := below_at (Below.refl _ _) r
  have d1 : decide (d ≤ 0) = true := by simp; omega
  clear hR
  go_enter Tryz.func56, Tryz.ntmps56
  by_cases hl0 : lams = 0
  · have d2 : decide ((lams : Int) > 0) = false := by simp; omega
    go_wp2_with fail
    refine Calls.mono (of_lit r A n c p _ _ 8 w HR.out (by omega) rfl rfl (by decide)) ?_
    rintro e wf ⟨sf, qf, rfl, hsf, hqf, hgf, hrf⟩
    have HGF := Lib.hid (grown_trans HG.out hgf)
    have HRF := Lib.hid hrf
    clear hgf hrf
    go_wp2_with fail
    go_ret
    exact ⟨sf, qf, rfl, by omega, by omega, HGF.out, HRF.out⟩
  · have d2 : decide ((lams : Int) > 0) = true := by simp; omega
    go_wp2_with fail
    refine (pick_any r A n c p 3 w (by omega) (by omega) HR.out).mono ?_
    rintro e wk ⟨k1, rfl, hk1, hgk, hrk⟩
    have HGK := Lib.hid (grown_trans HG.out hgk)
    have HRK := Lib.hid hrk
    clear hgk hrk
    by_cases hk0 : k1 = 0
    · have d3 : decide ((k1 : Int) > 0) = false := by simp; omega
      go_wp2_with fail
      refine Calls.mono (of_lit r A n c (p + 1) _ _ 8 wk HRK.out (by omega) rfl rfl (by decide)) ?_
      rintro e wf ⟨sf, qf, rfl, hsf, hqf, hgf, hrf⟩
      have HGF := Lib.hid (grown_trans HGK.out hgf)
      have HRF := Lib.hid hrf
      clear hgf hrf
      go_wp2_with fail
      go_ret
      exact ⟨sf, qf, rfl, by omega, by omega, HGF.out, HRF.out⟩
    · have d3 : decide ((k1 : Int) > 0) = true := by simp; omega
      go_wp2_with fail
      refine (pick_any r A n c (p + 1) lams wk (by omega) (by omega) HRK.out).mono ?_
      rintro e wm ⟨k2, rfl, hk2, hgm, hrm⟩
      have HGM := Lib.hid (grown_trans HGK.out hgm)
      have HRM := Lib.hid hrm
      clear hgm hrm
      go_wp2_with fail
      refine (l6Dec_small k2 (by omega) wm).mono ?_
      rintro e wd ⟨rfl, hbd⟩
      have hdl := dec_len k2 (by omega)
      have HGD := Lib.hid (grown_trans HGM.out (below_at hbd r))
      have HRD := Lib.hid (HRM.out.grown hbd)
      clear hbd
      go_wp2_with fail
      go_ret
      exact ⟨_, p + 1 + 1, rfl, by simp [ByteArray.size]; omega, by omega, HGD.out, HRD.out⟩

theorem str_len (a b : ByteArray) : (a ++ b).size = a.size + b.size := by simp

set_option maxHeartbeats 6400000 in
set_option maxRecDepth 100000 in
theorem loose_step (N : Nat) (IH : LooseSaid N) (r : Nat) (A : Option Addr) (n c p lams : Nat) (d : Int) (w : World) (hR : Rd w r A n c p) (hp : p + bnd (N + 1) ≤ 900000) (hb1 : bnd (N + 1) ≤ 10000) (hlN : lams + (N + 1) ≤ 40) (hd0 : 0 < d) (hd1 : d ≤ N + 1) :
    Calls Tryz.prog 56 #[.pointer (some ⟨r, 0, none⟩), .int .i64 lams, .int .i64 d] w (DrawnPost w r A n c p (bnd (N + 1)) (bnd (N + 1))) := by
  have hbn := bnd_ge N
  rw [bnd] at hp hb1 ⊢
  have HI1 : Hid (∀ W P, Rd W r A n c P → P + bnd N ≤ 900000 → Calls Tryz.prog 56 #[.pointer (some ⟨r, 0, none⟩), .int .i64 ((lams : Int) + 1), .int .i64 (d - 1)] W (DrawnPost W r A n c P (bnd N) (bnd N))) :=
    fun W P h1 h2 => IH r A n c P (lams + 1) (d - 1) W h1 h2 (by omega) (by omega) (by omega) (by omega)
  have HI2 : Hid (∀ W P, Rd W r A n c P → P + bnd N ≤ 900000 → Calls Tryz.prog 56 #[.pointer (some ⟨r, 0, none⟩), .int .i64 lams, .int .i64 (d - 1)] W (DrawnPost W r A n c P (bnd N) (bnd N))) :=
    fun W P h1 h2 => IH r A n c P lams (d - 1) W h1 h2 (by omega) (by omega) (by omega) (by omega)
  have HI3 : Hid (∀ W P (k : Nat), k < 2 → Rd W r A n c P → P + bnd N ≤ 900000 → Calls Tryz.prog 56 #[.pointer (some ⟨r, 0, none⟩), .int .i64 lams, .int .i64 (d - 1 - (k : Int))] W (DrawnPost W r A n c P (bnd N) (bnd N))) :=
    fun W P k hk h1 h2 => IH r A n c P lams (d - 1 - (k : Int)) W h1 h2 (by omega) (by omega) (by omega) (by omega)
  have hdN : d ≤ 41 := by omega
  clear IH
  generalize bnd N = b at *
  obtain ⟨G, hG0, hG1, hG2⟩ : ∃ G : Nat → Nat, G 0 = 0 ∧ (∀ j, G (j + 1) = G j + (b + 2)) ∧ ∀ j, j ≤ 3 → G j ≤ 3 * (b + 2) :=
    ⟨fun j => j * (b + 2), by simp, fun j => by show (j + 1) * (b + 2) = j * (b + 2) + (b + 2); rw [Nat.add_mul]; omega, fun j hj => Nat.mul_le_mul_right _ hj⟩
  have HG1 := Lib.hid hG1
  have HG2 := Lib.hid hG2
  have HR := Lib.hid hR
  have d1 : decide (d ≤ 0) = false := by simp; omega
  have z32 : (⟨#[32]⟩ : ByteArray).size = 1 := rfl
  have z41 : (⟨#[41]⟩ : ByteArray).size = 1 := rfl
  have z42 : (⟨#[41, 41]⟩ : ByteArray).size = 2 := rfl
  have z5 : (⟨#[40, 97, 112, 112, 32]⟩ : ByteArray).size = 5 := rfl
  have z6 : (⟨#[40, 108, 97, 109, 32]⟩ : ByteArray).size = 5 := rfl
  have z2 : (⟨#[40, 109]⟩ : ByteArray).size = 2 := rfl
  clear hR hG1 hG2
  go_enter Tryz.func56, Tryz.ntmps56
  go_wp2_with fail
  refine (pick_any r A n c p 4 w (by omega) (by omega) HR.out).mono ?_
  rintro e w1 ⟨k0, rfl, hk0, hg1, hr1⟩
  have HGA := Lib.hid hg1
  have HRA := Lib.hid hr1
  clear hg1 hr1
  by_cases h0 : k0 = 0
  · have d4 : ((k0 : Int) == 0) = true := by simp; omega
    by_cases hl0 : lams = 0
    · have d2 : decide ((lams : Int) > 0) = false := by simp; omega
      go_wp2_with fail
      refine Calls.mono (of_lit r A n c (p + 1) _ _ 8 w1 HRA.out (by omega) rfl rfl (by decide)) ?_
      rintro e wf ⟨sf, qf, rfl, hsf, hqf, hgf, hrf⟩
      have HGF := Lib.hid (grown_trans HGA.out hgf)
      have HRF := Lib.hid hrf
      clear hgf hrf
      go_wp2_with fail
      go_ret
      exact ⟨sf, qf, rfl, by omega, by omega, HGF.out, HRF.out⟩
    · have d2 : decide ((lams : Int) > 0) = true := by simp; omega
      go_wp2_with fail
      refine (pick_any r A n c (p + 1) 3 w1 (by omega) (by omega) HRA.out).mono ?_
      rintro e wk ⟨k1, rfl, hk1, hgk, hrk⟩
      have HGK := Lib.hid (grown_trans HGA.out hgk)
      have HRK := Lib.hid hrk
      clear hgk hrk
      by_cases hk0 : k1 = 0
      · have d3 : decide ((k1 : Int) > 0) = false := by simp; omega
        go_wp2_with fail
        refine Calls.mono (of_lit r A n c ((p + 1) + 1) _ _ 8 wk HRK.out (by omega) rfl rfl (by decide)) ?_
        rintro e wf ⟨sf, qf, rfl, hsf, hqf, hgf, hrf⟩
        have HGF := Lib.hid (grown_trans HGK.out hgf)
        have HRF := Lib.hid hrf
        clear hgf hrf
        go_wp2_with fail
        go_ret
        exact ⟨sf, qf, rfl, by omega, by omega, HGF.out, HRF.out⟩
      · have d3 : decide ((k1 : Int) > 0) = true := by simp; omega
        go_wp2_with fail
        refine (pick_any r A n c ((p + 1) + 1) lams wk (by omega) (by omega) HRK.out).mono ?_
        rintro e wm ⟨k2, rfl, hk2, hgm, hrm⟩
        have HGM := Lib.hid (grown_trans HGK.out hgm)
        have HRM := Lib.hid hrm
        clear hgm hrm
        go_wp2_with fail
        refine (l6Dec_small k2 (by omega) wm).mono ?_
        rintro e wd ⟨rfl, hbd⟩
        have hdl := dec_len k2 (by omega)
        have HGD := Lib.hid (grown_trans HGM.out (below_at hbd r))
        have HRD := Lib.hid (HRM.out.grown hbd)
        clear hbd
        go_wp2_with fail
        go_ret
        exact ⟨_, (p + 1) + 1 + 1, rfl, by simp [ByteArray.size]; omega, by omega, HGD.out, HRD.out⟩
  · have d4 : ((k0 : Int) == 0) = false := by simp; omega
    go_wp2_with fail
    refine (pick_any r A n c (p + 1) 3 w1 (by omega) (by omega) HRA.out).mono ?_
    rintro e w2 ⟨k3, rfl, hk3, hg2, hr2⟩
    have HGB := Lib.hid (grown_trans HGA.out hg2)
    have HRB := Lib.hid hr2
    clear hg2 hr2
    by_cases h3 : k3 = 0
    · have d5 : ((k3 : Int) == 0) = true := by simp; omega
      go_wp2_with fail
      refine (HI1.out w2 (p + 1 + 1) HRB.out (by omega)).mono ?_
      rintro e w3 ⟨s3, q3, rfl, hs3, hq3, hg3, hr3⟩
      have HGC := Lib.hid (grown_trans HGB.out hg3)
      have HRC := Lib.hid hr3
      clear hg3 hr3
      go_wp2_with fail
      go_ret
      exact ⟨_, q3, rfl, by simp only [str_len, z6, z41]; omega, by omega, HGC.out, HRC.out⟩
    · have d5 : ((k3 : Int) == 0) = false := by simp; omega
      go_wp2_with fail
      refine (pick_any r A n c (p + 1 + 1) 4 w2 (by omega) (by omega) HRB.out).mono ?_
      rintro e w3 ⟨k, rfl, hk, hg3, hr3⟩
      have HGC := Lib.hid (grown_trans HGB.out hg3)
      have HRC := Lib.hid hr3
      clear hg3 hr3
      have hk4 : k ≤ 3 := by omega
      go_wp2_with fail
      go_loopw [7, 9] (fun bv iv wr => ∃ (j q : Nat) (sb : ByteArray), j ≤ k ∧ iv = .int .i64 j ∧ bv = .string sb ∧ sb.size ≤ 2 + G j ∧ q ≤ p + 3 + G j ∧ Hid (w.grownBy wr (some r)) ∧ Hid (Rd wr r A n c q)) (fun _ iv _ => k - (intOf iv).toNat)
      case atStart => exact ⟨0, p + 1 + 1 + 1, _, Nat.zero_le _, rfl, rfl, by rw [hG0, z2]; omega, by omega, HGC.out, HRC.out⟩
      case round =>
        obtain ⟨j, q, sb, hj, rfl, rfl, hsb, hq, hgr, hrr⟩ := hrel
        have hGj := HG2.out j (by omega)
        by_cases hjk : j < k
        · have hGs := HG1.out j
          have hGj' := HG2.out (j + 1) (by omega)
          go_wp2_with fail
          refine (pick_any r A n c q 2 wr (by omega) (by omega) hrr.out).mono ?_
          rintro e wa ⟨k2, rfl, hk2, hga, hra⟩
          have HGD := Lib.hid (grown_trans hgr.out hga)
          have HRD := Lib.hid hra
          clear hga hra
          go_wp2_with fail
          refine (HI3.out wa (q + 1) k2 (by omega) HRD.out (by omega)).mono ?_
          rintro e wb ⟨s4, q4, rfl, hs4, hq4, hg4, hr4⟩
          have HGE := Lib.hid (grown_trans HGD.out hg4)
          have HRE := Lib.hid hr4
          clear hg4 hr4
          go_wp2_with fail
          go_roundw
          case rel => exact ⟨j + 1, q4, _, by omega, by go_num, rfl, by simp only [str_len, z32]; omega, by omega, HGE.out, HRE.out⟩
          case measure => simp [intOf]; omega
        · obtain rfl : j = k := by omega
          go_wp2_with fail
          refine (HI2.out wr q hrr.out (by omega)).mono ?_
          rintro e wb ⟨s4, q4, rfl, hs4, hq4, hg4, hr4⟩
          have HGE := Lib.hid (grown_trans hgr.out hg4)
          have HRE := Lib.hid hr4
          clear hg4 hr4
          go_wp2_with fail
          go_ret
          exact ⟨_, q4, rfl, by simp only [str_len, z5, z32, z42]; omega, by omega, HGE.out, HRE.out⟩

theorem looseSaid : ∀ N, LooseSaid N
  | 0 => fun r A n c p lams d w h1 h2 _ h4 h5 h6 => loose_leaf 0 r A n c p lams d w h1 h2 h4 (by simpa using h5) h6
  | N + 1 => fun r A n c p lams d w h1 h2 h3 h4 h5 h6 => by
    by_cases hd : d ≤ 0
    · exact loose_leaf (N + 1) r A n c p lams d w h1 h2 h4 hd h6
    · exact loose_step N (looseSaid N) r A n c p lams d w h1 h2 h3 h4 (by omega) (by simpa using h5)

end Go.Proofs.YtomaknmemhpghaaGreatDoor
