/- Marks in the rows of a sum: markIntS, heldIntS, markSum, heldSum. -/
import Derived.Test.YtopmkddmllmecaaGreatDoorKdA
import Derived.Test.YtopmkddmllmecaaGreatDoorIntA
import Derived.Test.YtopmkddmllmecaaGreatDoorNatE
set_option linter.unusedSimpArgs false
set_option linter.unusedVariables false
namespace Go.Proofs.YtopmkddmllmecaaGreatDoor
open Go.RowKit Rt Go.Lib

/-- The marks from k on, as numbers. -/
def imk (n k : Nat) : List Int := (List.range n).map fun i => ((k + i : Nat) : Int)

theorem imk_length (n k : Nat) : (imk n k).length = n := by simp [imk]
theorem imk_at (n k j : Nat) (h : j < n) : (imk n k)[j]? = some ((k + j : Nat) : Int) := by simp [imk, h]

theorem imk_set (n k j : Nat) (h : j < n) (vs : List Value) (hl : vs.length = n) : (intv (imk j k) ++ vs.drop j).set j (.int .i64 ((k + j : Nat) : Int)) = intv (imk (j + 1) k) ++ vs.drop (j + 1) := by
  have h1 : (intv (imk j k)).length = j := by simp [intv, imk]
  rw [List.set_append_right _ _ (by omega), h1, Nat.sub_self, List.drop_eq_getElem_cons (by omega), List.set_cons_zero]
  simp [intv, imk, List.range_succ]

theorem own_goA {w w' : World} {B n : Nat} {e : TypeId} {v : Value} {vs : List Value} (h : w.ownsRow B e 1 v n vs) (hb : Below w.heap.size w w') : w'.ownsRow B e 1 v n vs :=
  h.kept (row := none) ⟨hb.os, hb.tape, hb.output, hb.size, fun k hk _ => hb.block k hk⟩ (by
    cases hv : v.ownBlock with
    | none => exact .inl rfl
    | some k => exact .inr (by simp))

theorem grownA {w w' : World} (h : Below w.heap.size w w') (row : Option Nat) : w.grownBy w' row := ⟨h.os, h.tape, h.output, h.size, fun k hk _ => h.block k hk⟩

set_option maxHeartbeats 1600000 in
set_option maxRecDepth 100000 in
theorem markIntS_own (A : Option Addr) (c n k B : Nat) (vs : List Value) (w : World) (hn : n ≤ 1000000) (hk : k ≤ 2000000) (hA : w.ownsRow B 3 1 (.slice A n c) n vs) :
    Calls Tryz.prog 45 #[.slice A n c, .int .i64 k] w fun e w' => e = .returned (.int .i64 (k + n : Nat)) ∧ w.grownBy w' (Value.slice A n c).ownBlock ∧ w'.ownsRow B 3 1 (.slice A n c) n (intv (imk n k)) := by
  have hlen : vs.length = n := by have := hA.1; omega
  have HST : Hid (∀ j, j < n → (intv (imk j k) ++ vs.drop j).set j (.int .i64 ((k + j : Nat) : Int)) = intv (imk (j + 1) k) ++ vs.drop (j + 1)) := fun j h => imk_set n k j h vs hlen
  have H0 := Lib.hid hA
  have HZ : Hid (intv (imk n k) ++ vs.drop n = intv (imk n k)) := by show _ = _; rw [List.drop_of_length_le (by omega), List.append_nil]
  have HZ0 : Hid (intv (imk 0 k) ++ vs.drop 0 = vs) := by show _ = _; simp [intv, imk]
  have HAT : Hid (∀ j, j < n → ∃ x, (intv (imk j k) ++ vs.drop j)[j]? = some x) := fun j h => ⟨_, List.getElem?_eq_getElem (by simp [intv, imk]; omega)⟩
  clear hA
  go_enter Tryz.func45, Tryz.ntmps45
  go_wp2_with fail
  go_loopw [1, 5] (fun lv iv wr => ∃ j : Nat, j ≤ n ∧ lv = .int .i64 ((k + j : Nat) : Int) ∧ iv = .int .i64 j ∧ Hid (wr.ownsRow B 3 1 (.slice A n c) n (intv (imk j k) ++ vs.drop j)) ∧ Hid (w.grownBy wr (Value.slice A n c).ownBlock)) (fun _ iv _ => n - (intOf iv).toNat)
  case atStart => exact ⟨0, Nat.zero_le _, rfl, rfl, by show World.ownsRow _ _ _ _ _ _ _; rw [HZ0.out]; exact H0.out, ⟨rfl, rfl, rfl, Nat.le_refl _, fun _ _ _ => rfl⟩⟩
  case round =>
    obtain ⟨j, hj, rfl, rfl, hown, hgr⟩ := hrel
    by_cases hlt : j < n
    · have HSj := Lib.hid (HST.out j hlt)
      obtain ⟨x, hx⟩ := HAT.out j hlt
      obtain ⟨g, rfl, p1, p0, p3, p4, p5⟩ := own_cells hown.out (by omega)
      have e2 := p5 j x hx
      have e3 := hown.out.frozenAt j
      have hst := hown.out.stored j (.int .i64 ((k + j : Nat) : Int))
      rw [HSj.out] at hst
      have HST2 := Lib.hid hst
      clear hst p5 hx
      go_wp2_with fail
      go_roundw
      case rel => exact ⟨j + 1, by omega, by go_num, by go_num, HST2.out.1, hgr.out.trans HST2.out.2⟩
      case measure => simp [intOf]; omega
    · obtain rfl : j = n := by omega
      have HF := hown.out
      rw [HZ.out] at HF
      have HF2 := Lib.hid HF
      clear HF
      go_wp2_with fail
      go_ret
      exact ⟨rfl, hgr.out, HF2.out⟩

set_option maxHeartbeats 1600000 in
set_option maxRecDepth 100000 in
theorem heldIntS_mk (A : Option Addr) (c n k : Nat) (w : World) (hn : n ≤ 1000000) (hk : k ≤ 2000000) (hA : Ints w A (imk n k)) :
    Calls Tryz.prog 47 #[.slice A n c, .int .i64 k] w fun e w' => e = .returned (.int .i64 (k + n : Nat)) ∧ Below w.heap.size w w' := by
  have HA := Lib.hid hA
  clear hA
  go_enter Tryz.func47, Tryz.ntmps47
  go_wp2_with fail
  go_loopw [1, 5] (fun lv iv wr => ∃ j : Nat, j ≤ n ∧ lv = .int .i64 ((k + j : Nat) : Int) ∧ iv = .int .i64 j ∧ Hid (Below w.heap.size w wr)) (fun _ iv _ => n - (intOf iv).toNat)
  case atStart => exact ⟨0, Nat.zero_le _, rfl, rfl, Below.refl _ _⟩
  case round =>
    obtain ⟨j, hj, rfl, rfl, hbel⟩ := hrel
    by_cases hlt : j < n
    · obtain ⟨g, o, rfl, e0⟩ := (HA.out.below hbel.out) j _ (imk_at n k j hlt)
      have hq1 : (((k + j : Nat) : Int) == ((k + j : Nat) : Int)) = true := by simp
      go_wp2_with fail
      go_roundw
      case rel => exact ⟨j + 1, by omega, by go_num, by go_num, by first | exact hbel.out.drew | exact hbel.out⟩
      case measure => simp [intOf]; omega
    · obtain rfl : j = n := by omega
      go_wp2_with fail
      go_ret
      exact ⟨rfl, hbel.out⟩

set_option maxHeartbeats 1600000 in
set_option maxRecDepth 100000 in
theorem markStringS_own (A : Option Addr) (c n k B : Nat) (vs : List Value) (w : World) (h0 : 0 < k) (hn : n ≤ 1000000) (hk : k ≤ 1000000) (hA : w.ownsRow B 9 1 (.slice A n c) n vs) :
    Calls Tryz.prog 44 #[.slice A n c, .int .i64 k] w fun e w' => e = .returned (.int .i64 (k + n : Nat)) ∧ w.grownBy w' (Value.slice A n c).ownBlock ∧ w'.ownsRow B 9 1 (.slice A n c) n (strv (marks n k)) := by
  have HM : Hid (∀ (j : Nat) (W : World), j < n → Calls Tryz.prog 77 #[.int .i64 ((k + j : Nat) : Int)] W fun e w' => e = .returned (.string (mark (k + j))) ∧ Below W.heap.size W w') := fun j W h => markText_any (k + j) (by omega) (by omega) W
  have hlen : vs.length = n := by have := own_len hA; omega
  have HST : Hid (∀ j, j < n → (strv (marks j k) ++ vs.drop j).set j (.string (mark (k + j))) = strv (marks (j + 1) k) ++ vs.drop (j + 1)) := fun j h => marks_set n k j h vs hlen
  have H0 := Lib.hid hA
  have HZ : Hid (strv (marks n k) ++ vs.drop n = strv (marks n k)) := by show _ = _; rw [List.drop_of_length_le (by omega), List.append_nil]
  have HZ0 : Hid (strv (marks 0 k) ++ vs.drop 0 = vs) := by show _ = _; simp [strv, marks]
  have HAT : Hid (∀ j, j < n → ∃ x, (strv (marks j k) ++ vs.drop j)[j]? = some x) := fun j h => ⟨_, List.getElem?_eq_getElem (by simp [strv, marks]; omega)⟩
  clear hA
  go_enter Tryz.func44, Tryz.ntmps44
  go_wp2_with fail
  go_loopw [1, 5] (fun lv iv wr => ∃ j : Nat, j ≤ n ∧ lv = .int .i64 ((k + j : Nat) : Int) ∧ iv = .int .i64 j ∧ Hid (wr.ownsRow B 9 1 (.slice A n c) n (strv (marks j k) ++ vs.drop j)) ∧ Hid (w.grownBy wr (Value.slice A n c).ownBlock)) (fun _ iv _ => n - (intOf iv).toNat)
  case atStart => exact ⟨0, Nat.zero_le _, rfl, rfl, by show World.ownsRow _ _ _ _ _ _ _; rw [HZ0.out]; exact H0.out, ⟨rfl, rfl, rfl, Nat.le_refl _, fun _ _ _ => rfl⟩⟩
  case round =>
    obtain ⟨j, hj, rfl, rfl, hown, hgr⟩ := hrel
    by_cases hlt : j < n
    · have HMj : Hid (∀ W : World, Calls Tryz.prog 77 #[.int .i64 ((k : Int) + (j : Int))] W fun e w' => e = .returned (.string (mark (k + j))) ∧ Below W.heap.size W w') := fun W => HM.out j W hlt
      have HSj := Lib.hid (HST.out j hlt)
      obtain ⟨x, hx⟩ := HAT.out j hlt
      generalize mark (k + j) = s at HSj HMj
      obtain ⟨g, rfl, p1, p0, p3, p4, -⟩ := own_cells hown.out (by omega)
      go_wp2_with fail
      refine (HMj.out wr).mono ?_
      rintro e w1 ⟨rfl, hb⟩
      have hown1 := own_go hown.out hb
      obtain ⟨g', e9, -, p2, -, -, p5⟩ := own_cells hown1 (by omega)
      injection e9 with e9
      injection e9 with e9
      subst e9
      have e2 := p5 j x hx
      have e3 := hown1.frozenAt j
      have hst := hown1.stored j (.string s)
      rw [HSj.out] at hst
      have HST2 := Lib.hid hst
      have HB1 := Lib.hid (hgr.out.trans (grownA hb _))
      clear hb hown1 hst p5 hx
      go_wp2_with fail
      go_roundw
      case rel => exact ⟨j + 1, by omega, by go_num, by go_num, HST2.out.1, HB1.out.trans HST2.out.2⟩
      case measure => simp [intOf]; omega
    · obtain rfl : j = n := by omega
      have HF := hown.out
      rw [HZ.out] at HF
      have HF2 := Lib.hid HF
      clear HF
      go_wp2_with fail
      go_ret
      exact ⟨rfl, hgr.out, HF2.out⟩

/-- A row beside one that is written. -/
theorem own_aside {w w' : World} {B n : Nat} {e : TypeId} {v u : Value} {vs : List Value} (h : w.ownsRow B e 1 v n vs) (hg : w.grownBy w' u.ownBlock) (hne : ∀ b, v.ownBlock = some b → u.ownBlock ≠ some b) : w'.ownsRow B e 1 v n vs :=
  h.kept hg (by
    cases hv : v.ownBlock with
    | none => exact .inl rfl
    | some k => exact .inr (fun e => hne k hv e.symm))

/-- Rows of different element types lie in different blocks. -/
theorem types_apart {w : World} {B B' n n' : Nat} {e e' : TypeId} {v v' : Value} {xs ys : List Value} (h : w.ownsRow B e 1 v n xs) (h' : w.ownsRow B' e' 1 v' n' ys) (hne : e ≠ e') : ∀ b, v.ownBlock = some b → v'.ownBlock ≠ some b := by
  intro b hb hb'
  rcases h.2 with ⟨rfl, _⟩ | ⟨g, cap, cur, rfl, _, hh, _⟩
  · simp [Value.ownBlock] at hb
  · rcases h'.2 with ⟨rfl, _⟩ | ⟨g', cap', cur', rfl, _, hh', _⟩
    · simp [Value.ownBlock] at hb'
    · simp [Value.ownBlock] at hb hb'
      subst hb
      subst hb'
      rw [hh] at hh'
      injection hh' with h1
      injection h1 with _ h2
      exact hne h2

/-- The three rows of a sum, all of them the call's own and apart. -/
def Rows3 (w : World) (Bb : Nat) (A B C : Option Addr) (ca cb cc n : Nat) (xs ys zs : List Value) : Prop :=
  w.ownsRow Bb 9 1 (.slice A n ca) n xs ∧ w.ownsRow Bb 3 1 (.slice B n cb) n ys ∧ w.ownsRow Bb 3 1 (.slice C n cc) n zs ∧ ∀ q, (Value.slice B n cb).ownBlock = some q → (Value.slice C n cc).ownBlock ≠ some q

theorem Rows3.below {w w' : World} {Bb ca cb cc n : Nat} {A B C : Option Addr} {xs ys zs : List Value} (h : Rows3 w Bb A B C ca cb cc n xs ys zs) (hb : Below w.heap.size w w') : Rows3 w' Bb A B C ca cb cc n xs ys zs :=
  ⟨own_goA h.1 hb, own_goA h.2.1 hb, own_goA h.2.2.1 hb, h.2.2.2⟩

/-- Every block beside the three rows stays. -/
def KeepsBut (w w' : World) (A B C : Option Addr) (ca cb cc n : Nat) : Prop :=
  ∀ g, g < w.heap.size → (Value.slice A n ca).ownBlock ≠ some g → (Value.slice B n cb).ownBlock ≠ some g → (Value.slice C n cc).ownBlock ≠ some g → w'.heap[g]? = w.heap[g]?

theorem int_ne_string : 9 ≠ 3 := by decide

set_option maxHeartbeats 1600000 in
set_option maxRecDepth 100000 in
theorem markSum_any (Bb ca cb cc n k m : Nat) (A B C : Option Addr) (xs ys zs : List Value) (w : World) (h0 : 0 < k) (hn : n ≤ 1000) (hk : k ≤ 1000) (hm : m = k + n + n + n) (hB : Bb ≤ w.heap.size) (h : Rows3 w Bb A B C ca cb cc n xs ys zs) :
    Calls Tryz.prog 13 #[.agg #[.slice A n ca, .slice B n cb, .slice C n cc], .int .i64 k] w fun e w' => e = .returned (.int .i64 (m : Nat)) ∧ Below Bb w w' ∧ Rows3 w' Bb A B C ca cb cc n (strv (marks n k)) (intv (imk n (k + n))) (intv (imk n (k + n + n))) ∧ KeepsBut w w' A B C ca cb cc n := by
  obtain ⟨k1, hk1⟩ : ∃ k1, k1 = k + n := ⟨_, rfl⟩
  obtain ⟨k2, hk2⟩ : ∃ k2, k2 = k1 + n := ⟨_, rfl⟩
  have hm' : m = k2 + n := by omega
  rw [← hk1, ← hk2]
  have hb0 : Below w.heap.size w (w.alloc (.cells #[.slice A n ca, .slice B n cb, .slice C n cc] 25)) := by go_grown
  have HB0 := Lib.hid hb0
  have hr0 := h.below hb0
  have HBX := Lib.hid (Blk.new w 25 #[.slice A n ca, .slice B n cb, .slice C n cc])
  have l0 : ∀ q, (Value.slice A n ca).ownBlock = some q → Bb ≤ q ∧ q < w.heap.size := fun q hq => own_block_lt h.1 q hq
  have l1 : ∀ q, (Value.slice B n cb).ownBlock = some q → Bb ≤ q ∧ q < w.heap.size := fun q hq => own_block_lt h.2.1 q hq
  have l2 : ∀ q, (Value.slice C n cc).ownBlock = some q → Bb ≤ q ∧ q < w.heap.size := fun q hq => own_block_lt h.2.2.1 q hq
  have a10 := types_apart h.2.1 h.1 (Ne.symm int_ne_string)
  have a20 := types_apart h.2.2.1 h.1 (Ne.symm int_ne_string)
  have a01 := types_apart h.1 h.2.1 int_ne_string
  have a02 := types_apart h.1 h.2.2.1 int_ne_string
  have a12 := h.2.2.2
  have HL := Lib.hid (And.intro l0 (And.intro l1 l2))
  have HAP := Lib.hid (And.intro a10 (And.intro a20 (And.intro a01 (And.intro a02 a12))))
  have HC0 := Lib.hid (markStringS_own A ca n k Bb xs _ h0 (by omega) (by omega) hr0.1)
  have HR0 := Lib.hid hr0
  have HK := Lib.hid (And.intro hk1 (And.intro hk2 hm'))
  have hk1' : k1 ≤ 3000 := by omega
  have hk2' : k2 ≤ 4000 := by omega
  rw [← hk1] at HC0
  clear h hb0 hr0 l0 l1 l2 a10 a20 a01 a02 a12 hk1 hk2 hm hm'
  go_enter Tryz.func13, Tryz.ntmps13
  go_wp2_with fail
  refine HC0.out.mono ?_
  rintro e w1 ⟨rfl, hg1, ho1⟩
  have HR1 : Hid (Rows3 w1 Bb A B C ca cb cc n (strv (marks n k)) ys zs) := ⟨ho1, own_aside HR0.out.2.1 hg1 HAP.out.1, own_aside HR0.out.2.2.1 hg1 HAP.out.2.1, HAP.out.2.2.2.2⟩
  have hX1 := HBX.out.grown hg1 (fun e => by have := HL.out.1 _ e.symm; omega)
  have HX1 := Lib.hid hX1
  obtain ⟨x0, x1, x2⟩ := blk_three hX1
  have HK1 : Hid (KeepsBut w w1 A B C ca cb cc n) := fun g h p0 p1 p2 => (hg1.block g (by simp; omega) (fun e => p0 e.symm)).trans (HB0.out.block g h)
  have HB1 : Hid (Below Bb w w1) := Below.grown (HB0.out.mono hB) hg1 (by simp; omega) (fun q hq => (HL.out.1 q hq).1)
  have HC1 := Lib.hid (markIntS_own B cb n k1 Bb ys w1 (by omega) (by omega) HR1.out.2.1)
  rw [← HK.out.2.1] at HC1
  clear hg1 ho1 hX1
  go_wp2_with fail
  refine HC1.out.mono ?_
  rintro e w2 ⟨rfl, hg2, ho2⟩
  have HR2 : Hid (Rows3 w2 Bb A B C ca cb cc n (strv (marks n k)) (intv (imk n k1)) zs) := ⟨own_aside HR1.out.1 hg2 HAP.out.2.2.1, ho2, own_aside HR1.out.2.2.1 hg2 (fun b hb hb2 => HAP.out.2.2.2.2 b hb2 hb), HAP.out.2.2.2.2⟩
  have hX2 := HX1.out.grown hg2 (fun e => by have := HL.out.2.1 _ e.symm; omega)
  obtain ⟨y0, y1, y2⟩ := blk_three hX2
  have hs1 := HB1.out.size
  have HS1 : Hid (w.heap.size ≤ w1.heap.size) := HB1.out.size
  have HK2 : Hid (KeepsBut w w2 A B C ca cb cc n) := fun g h p0 p1 p2 => (hg2.block g (Nat.lt_of_lt_of_le h HS1.out) (fun e => p1 e.symm)).trans (HK1.out g h p0 p1 p2)
  have HB2 : Hid (Below Bb w w2) := Below.grown HB1.out hg2 (by omega) (fun q hq => (HL.out.2.1 q hq).1)
  have HC2 := Lib.hid (markIntS_own C cc n k2 Bb zs w2 (by omega) (by omega) HR2.out.2.2.1)
  rw [← HK.out.2.2] at HC2
  clear hg2 ho2 hX2 x0 x1 x2
  go_wp2_with fail
  refine HC2.out.mono ?_
  rintro e w3 ⟨rfl, hg3, ho3⟩
  have HR3 : Hid (Rows3 w3 Bb A B C ca cb cc n (strv (marks n k)) (intv (imk n k1)) (intv (imk n k2))) := ⟨own_aside HR2.out.1 hg3 HAP.out.2.2.2.1, own_aside HR2.out.2.1 hg3 HAP.out.2.2.2.2, ho3, HAP.out.2.2.2.2⟩
  have hs2 := HB2.out.size
  have HK3 : Hid (KeepsBut w w3 A B C ca cb cc n) := fun g h p0 p1 p2 => (hg3.block g (Nat.lt_of_lt_of_le h HB2.out.size) (fun e => p2 e.symm)).trans (HK2.out g h p0 p1 p2)
  have HB3 : Hid (Below Bb w w3) := Below.grown HB2.out hg3 (by omega) (fun q hq => (HL.out.2.2 q hq).1)
  clear hg3 ho3
  go_wp2_with fail
  go_ret
  exact ⟨rfl, HB3.out, HR3.out, HK3.out⟩

theorem texts_own {w : World} {c B n : Nat} {A : Option Addr} {ss : List ByteArray} (hn : ss.length = n) (h : w.ownsRow B 9 1 (.slice A n c) n (strv ss)) : Texts w A ss := by
  subst hn
  intro j s hs
  obtain ⟨g, rfl, -⟩ := own_cells h (by have := (List.getElem?_eq_some_iff.1 hs).1; omega)
  exact Texts.own h j s hs

theorem ints_own {w : World} {c B n : Nat} {A : Option Addr} {ss : List Int} (hn : ss.length = n) (h : w.ownsRow B 3 1 (.slice A n c) n (intv ss)) : Ints w A ss := by
  subst hn
  exact Ints.row h

set_option maxHeartbeats 1600000 in
set_option maxRecDepth 100000 in
theorem heldSum_same (Bb ca cb cc n k m : Nat) (A B C : Option Addr) (w : World) (h0 : 0 < k) (hn : n ≤ 1000) (hk : k ≤ 1000) (hm : m = k + n + n + n) (h : Rows3 w Bb A B C ca cb cc n (strv (marks n k)) (intv (imk n (k + n))) (intv (imk n (k + n + n)))) :
    Calls Tryz.prog 14 #[.agg #[.slice A n ca, .slice B n cb, .slice C n cc], .int .i64 k] w fun e w' => e = .returned (.int .i64 (m : Nat)) ∧ Below w.heap.size w w' := by
  obtain ⟨k1, hk1⟩ : ∃ k1, k1 = k + n := ⟨_, rfl⟩
  obtain ⟨k2, hk2⟩ : ∃ k2, k2 = k1 + n := ⟨_, rfl⟩
  have hm' : m = k2 + n := by omega
  rw [← hk1, ← hk2] at h
  have HT : Hid (∀ W, Below w.heap.size w W → Calls Tryz.prog 46 #[.slice A n ca, .int .i64 k] W fun e w' => e = .returned (.int .i64 (k1 : Nat)) ∧ Below W.heap.size W w') := fun W hb => by
    rw [hk1]; exact heldStringS_same A ca n k W h0 (by omega) (by omega) ((texts_own (marks_length n k) h.1).below hb)
  have HI1 : Hid (∀ W, Below w.heap.size w W → Calls Tryz.prog 47 #[.slice B n cb, .int .i64 k1] W fun e w' => e = .returned (.int .i64 (k2 : Nat)) ∧ Below W.heap.size W w') := fun W hb => by
    rw [hk2]; exact heldIntS_mk B cb n k1 W (by omega) (by omega) ((ints_own (imk_length n k1) h.2.1).below hb)
  have HI2 : Hid (∀ W, Below w.heap.size w W → Calls Tryz.prog 47 #[.slice C n cc, .int .i64 k2] W fun e w' => e = .returned (.int .i64 (m : Nat)) ∧ Below W.heap.size W w') := fun W hb => by
    rw [hm']; exact heldIntS_mk C cc n k2 W (by omega) (by omega) ((ints_own (imk_length n k2) h.2.2.1).below hb)
  have hb0 : Below w.heap.size w (w.alloc (.cells #[.slice A n ca, .slice B n cb, .slice C n cc] 25)) := by go_grown
  have HB0 := Lib.hid hb0
  have HBX := Lib.hid (Blk.new w 25 #[.slice A n ca, .slice B n cb, .slice C n cc])
  have d1 : decide ((k1 : Int) < 0) = false := by simp
  have d2 : decide ((k2 : Int) < 0) = false := by simp
  have d3 : decide ((m : Int) < 0) = false := by simp
  clear h hb0 hk1 hk2 hm hm'
  go_enter Tryz.func14, Tryz.ntmps14
  go_wp2_with fail
  refine (HT.out _ HB0.out).mono ?_
  rintro e w1 ⟨rfl, hb1⟩
  have hs0 := HB0.out.size
  have HB1 := Lib.hid (HB0.out.trans (hb1.mono hs0))
  have hX1 := HBX.out.below hb1 HBX.out.lt
  have HX1 := Lib.hid hX1
  obtain ⟨x0, x1, x2⟩ := blk_three hX1
  clear hb1 hX1
  go_wp2_with fail
  refine (HI1.out w1 HB1.out).mono ?_
  rintro e w2 ⟨rfl, hb2⟩
  have HB2 := Lib.hid (HB1.out.trans (hb2.mono HB1.out.size))
  obtain ⟨y0, y1, y2⟩ := blk_three (HX1.out.below hb2 HX1.out.lt)
  clear hb2 x0 x1 x2
  go_wp2_with fail
  refine (HI2.out w2 HB2.out).mono ?_
  rintro e w3 ⟨rfl, hb3⟩
  have HB3 := Lib.hid (HB2.out.trans (hb3.mono HB2.out.size))
  clear hb3
  go_wp2_with fail
  go_ret
  exact ⟨rfl, HB3.out⟩

end Go.Proofs.YtopmkddmllmecaaGreatDoor
