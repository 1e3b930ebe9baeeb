/- The program's sums: isFraction, readSum. -/
import Derived.Test.YtopmkddmllmecaaGreatDoorNatF
import Derived.Test.YtopmkddmllmecaaGreatDoorRdF
import Derived.Test.YtopmkddmllmecaaGreatDoorSumA
import Derived.Test.YtopmkddmllmecaaGreatDoorBsA
import Derived.Test.YtopmkddmllmecaaGreatDoorIntA
namespace Go.Proofs.YtopmkddmllmecaaGreatDoor
open Go.RowKit Rt Go.Lib
open Go.ChangeMaps Go.MapKept Go.Maps Go.WideMaps

set_option maxHeartbeats 1600000 in
set_option maxRecDepth 100000 in
theorem isFraction_any (t b : Int) (w : World) :
    Calls Tryz.prog 39 #[.int .i64 t, .int .i64 b] w fun e w' => e = .returned (.bool (smallF t b)) ∧ w = w' := by
  have h1 : smallF t b = (decide (-1000000000 ≤ t) && decide (t ≤ 1000000000) && (decide (1 ≤ b) && decide (b ≤ 1000000000))) := by unfold smallF; simp only [Bool.and_assoc]
  rw [h1]
  by_cases c1 : -1000000000 ≤ t
  · by_cases c2 : t ≤ 1000000000
    · by_cases c3 : 1 ≤ b
      · by_cases c4 : b ≤ 1000000000
        all_goals
          simp only [c1, c2, c3, c4, decide_true, decide_false, Bool.and_true, Bool.and_false]
          go_enter Tryz.func39, Tryz.ntmps39
          go_wp2
          go_ret
          exact ⟨rfl, rfl⟩
      · simp only [c1, c2, c3, decide_true, decide_false, Bool.and_true, Bool.false_and, Bool.and_false]
        go_enter Tryz.func39, Tryz.ntmps39
        go_wp2
        go_ret
        exact ⟨rfl, rfl⟩
    · simp only [c1, c2, decide_true, decide_false, Bool.and_false, Bool.false_and]
      go_enter Tryz.func39, Tryz.ntmps39
      go_wp2
      go_ret
      exact ⟨rfl, rfl⟩
  · simp only [c1, decide_false, Bool.false_and]
    go_enter Tryz.func39, Tryz.ntmps39
    go_wp2
    go_ret
    exact ⟨rfl, rfl⟩

theorem bytesLess_ltB : ∀ a b : B, Op.bytesLess a b = ltB a b
  | [], [] => rfl
  | _ :: _, [] => rfl
  | [], _ :: _ => rfl
  | a :: p, b :: q => by
    rw [Op.bytesLess, ltB, bytesLess_ltB p q]
    by_cases h1 : a < b
    · simp [h1]
    · by_cases h2 : b < a
      · have h3 : a ≠ b := fun e => by subst e; exact absurd h2 h1
        simp [h1, h2, h3]
      · have h3 : a = b := by
          have := UInt8.lt_or_lt_of_ne (a := a) (b := b)
          by_cases e : a = b
          · exact e
          · rcases this e with h | h
            · exact absurd h h1
            · exact absurd h h2
        simp [h3]

theorem cell_ne_map {w : World} {P : Program} {k : TypeId} {R : Value → Option (DataW Value × List MemPlace)} {m n g o : Nat} {D : DataW Value} {v : Value} (h : w.ownsMap P k R m n D) (e : w.cell? ⟨g, o, none⟩ = some v) : g ≠ m := by
  intro hg
  subst hg
  obtain ⟨es, clock, hb, _⟩ := h
  simp [World.cell?, hb] at e

theorem NatRep.grown {w w' : World} {v : Value} {x mm : Nat} (h : NatRep w v x) (hne : ∀ g o y, w.cell? ⟨g, o, none⟩ = some y → g ≠ mm) (hg : w.grownBy w' (some mm)) : NatRep w' v x := by
  obtain ⟨h1, A, c, h2, h3, h4, h5⟩ := h
  refine ⟨h1, A, c, h2, h3, h4, fun hp => ?_⟩
  obtain ⟨g, o, e, c0, c1⟩ := h5 hp
  exact ⟨g, o, e, grown_cell hg (hne _ _ _ c0) c0, fun h => grown_cell hg (hne _ _ _ c0) (c1 h)⟩

theorem FracRep.grown {w w' : World} {v : Value} {s : Bool} {t b mm : Nat} (h : FracRep w v s t b) (hne : ∀ g o y, w.cell? ⟨g, o, none⟩ = some y → g ≠ mm) (hg : w.grownBy w' (some mm)) : FracRep w' v s t b := by
  obtain ⟨x, y, e, h1, h2⟩ := h
  exact ⟨x, y, e, h1.grown hne hg, h2.grown hne hg⟩

/-- The text of the j-th term. -/
def sAt (ss : List ByteArray) (j : Nat) : B := (ss.getD j ByteArray.empty).data.toList

/-- A map that holds the first k fractions of a sum by the texts of their terms. -/
def FracMap (w : World) (mm : Nat) (D : DataW Value) (ss : List ByteArray) (ts bs : List Int) (k : Nat) : Prop :=
  w.ownsMap Tryz.prog 9 RV mm k D ∧ Maps.IsMap D ∧ (∀ key : B, Maps.has D (.string key) = true → ∃ j, j < k ∧ sAt ss j = key) ∧
  ∀ j, j < k → ∃ v, (∀ z, D.atKey (.string (sAt ss j)) z = .held v) ∧ Maps.has D (.string (sAt ss j)) = true ∧ FracRep w v (decide (ts.getD j 0 < 0)) (ts.getD j 0).natAbs (bs.getD j 0).natAbs

theorem FracMap.kept {w w' : World} {mm m k : Nat} {D : DataW Value} {ss : List ByteArray} {ts bs : List Int} {F : Value → Option (DataW Value × List MemPlace)} {P : Program} {kt : TypeId} {n : Nat} {D2 : DataW Value} (h : FracMap w mm D ss ts bs k) (hm : w.ownsMap P kt F m n D2) (hne : mm ≠ m) (hg : w.grownBy w' (some m)) : FracMap w' mm D ss ts bs k := by
  obtain ⟨h1, h2, h3, h4⟩ := h
  refine ⟨ownsMap_same (hg.block mm h1.lt (by intro e; injection e with e; exact hne e)) h1, h2, h3, fun j hj => ?_⟩
  obtain ⟨v, a, b, c⟩ := h4 j hj
  exact ⟨v, a, b, c.grown (fun g o y e => cell_ne_map hm e) hg⟩

theorem FracMap.below {w w' : World} {mm k : Nat} {D : DataW Value} {ss : List ByteArray} {ts bs : List Int} (h : FracMap w mm D ss ts bs k) (hb : Below w.heap.size w w') : FracMap w' mm D ss ts bs k := by
  obtain ⟨h1, h2, h3, h4⟩ := h
  refine ⟨ownsMap_same (hb.block mm h1.lt) h1, h2, h3, fun j hj => ?_⟩
  obtain ⟨v, a, b, c⟩ := h4 j hj
  exact ⟨v, a, b, c.below hb⟩

/-- One fraction more. -/
theorem FracMap.next {w w' : World} {mm k : Nat} {D : DataW Value} {ss : List ByteArray} {ts bs : List Int} {v : Value} (h : FracMap w mm D ss ts bs k) (hl : ∀ j, j < k → sAt ss j ≠ sAt ss k) (hf : FracRep w v (decide (ts.getD k 0 < 0)) (ts.getD k 0).natAbs (bs.getD k 0).natAbs)
    (ho : w'.ownsMap Tryz.prog 9 RV mm (k + 1) (D.put (.string (sAt ss k)) (.held v))) (hg : w.grownBy w' (some mm)) : FracMap w' mm (D.put (.string (sAt ss k)) (.held v)) ss ts bs (k + 1) := by
  obtain ⟨h1, h2, h3, h4⟩ := h
  have hne : ∀ g o y, w.cell? ⟨g, o, none⟩ = some y → g ≠ mm := fun g o y e => cell_ne_map h1 e
  refine ⟨ho, ?_, fun key hk => ?_, fun j hj => ?_⟩
  · obtain ⟨es, rfl⟩ := h2
    exact ⟨_, rfl⟩
  · by_cases he : key = sAt ss k
    · exact ⟨k, by omega, he.symm⟩
    · have hkk : (Lit.string key) ≠ Lit.string (sAt ss k) := by intro e; injection e with e; exact he e
      rw [Maps.has_put_other hkk] at hk
      obtain ⟨j, hj, e⟩ := h3 key hk
      exact ⟨j, by omega, e⟩
  · by_cases he : j = k
    · subst he
      exact ⟨v, fun z => Maps.atKey_put_same h2 (by trivial) _ _, Maps.has_put_same h2 (by trivial) _, hf.grown hne hg⟩
    · have hkk : (Lit.string (sAt ss j)) ≠ Lit.string (sAt ss k) := by intro e; injection e with e; exact hl j (by omega) e
      obtain ⟨v', a, b, c⟩ := h4 j (by omega)
      exact ⟨v', fun z => by rw [Maps.atKey_put_other hkk]; exact a z, by rw [Maps.has_put_other hkk]; exact b, c.grown hne hg⟩

theorem items_lt {ss : List ByteArray} {ts bs : List Int} : ∀ (k : Nat), (∀ i, i < k + 1 → itemOk ss ts bs i = true) → ∀ j, j < k → ltB (sAt ss j) (sAt ss k) = true
  | 0, _, j, hj => by omega
  | k + 1, h, j, hj => by
    have h1 := h (k + 1) (by omega)
    unfold itemOk at h1
    simp only [Bool.and_eq_true, Bool.or_eq_true, decide_eq_true_eq] at h1
    have h2 : ltB (sAt ss k) (sAt ss (k + 1)) = true := by
      rcases h1.1.2 with h | h
      · omega
      · exact h
    by_cases e : j = k
    · subst e; exact h2
    · exact ltB_trans _ _ _ (items_lt k (fun i hi => h i (by omega)) j (by omega)) h2

theorem items_ne {ss : List ByteArray} {ts bs : List Int} {k : Nat} (h : ∀ i, i < k + 1 → itemOk ss ts bs i = true) (j : Nat) (hj : j < k) : sAt ss j ≠ sAt ss k := by
  intro e
  have := items_lt k h j hj
  rw [e, ltB_irrefl] at this
  cases this

/-- What readSum gives, of a sum that is valid and of one that is not. -/
def SumRes (F : Nat → Prop) (w : World) (p m n : Nat) (ss : List ByteArray) (ts bs : List Int) (x : Bool) (e : Ending) (w' : World) : Prop :=
  match x with
    | true => ∃ mm D n' Dm, e = .returned (.tuple #[.map (some mm), .bool true]) ∧ n' ≤ n + 300 * ss.length ∧ w.heap.size ≤ mm ∧ Pool (fun q => (F q ∨ w.heap.size ≤ q) ∧ q ≠ mm) w' p m n' D ∧ FracMap w' mm Dm ss ts bs ss.length
    | false => e = .returned (.tuple #[.map none, .bool false])

/-- What readSum gives. -/
def SumPost (F : Nat → Prop) (w : World) (p m n : Nat) (ss : List ByteArray) (ts bs : List Int) (e : Ending) (w' : World) : Prop :=
  w.grownBy w' (some m) ∧ SumRes F w p m n ss ts bs (sumOk ss ts bs) e w'

/-- What holds at the head of readSum's loop. -/
structure RsRel (F : Nat → Prop) (w wr : World) (p m n : Nat) (sv tv bv : Value) (ss : List ByteArray) (ts bs : List Int) (k : Nat) (D : DataW Value) (n' : Nat) (Dm : DataW Value) : Prop where
  le : k ≤ ss.length
  ok : ∀ i, i < k → itemOk ss ts bs i = true
  box : Blk wr w.heap.size 25 #[sv, tv, bv]
  pool : Pool (fun q => (F q ∨ w.heap.size ≤ q) ∧ q ≠ w.heap.size + 1) wr p m n' D
  cnt : n' ≤ n + 300 * k
  grown : w.grownBy wr (some m)
  map : FracMap wr (w.heap.size + 1) Dm ss ts bs k

theorem Texts.grown {w w' : World} {A : Option Addr} {ss : List ByteArray} {m n : Nat} {P : Program} {k : TypeId} {R : Value → Option (DataW Value × List MemPlace)} {D : DataW Value} (h : Texts w A ss) (hm : w.ownsMap P k R m n D) (hg : w.grownBy w' (some m)) : Texts w' A ss := by
  intro j s hj
  obtain ⟨g, o, e, c⟩ := h j s hj
  exact ⟨g, o, e, grown_cell hg (cell_ne_map hm c) c⟩

theorem Ints.grown {w w' : World} {A : Option Addr} {ss : List Int} {m n : Nat} {P : Program} {k : TypeId} {R : Value → Option (DataW Value × List MemPlace)} {D : DataW Value} (h : Ints w A ss) (hm : w.ownsMap P k R m n D) (hg : w.grownBy w' (some m)) : Ints w' A ss := by
  intro j s hj
  obtain ⟨g, o, e, c⟩ := h j s hj
  exact ⟨g, o, e, grown_cell hg (cell_ne_map hm c) c⟩

theorem sumOk_len {ss : List ByteArray} {ts bs : List Int} (h : ¬ (ss.length ≤ 300 ∧ ts.length = ss.length ∧ bs.length = ss.length)) : sumOk ss ts bs = false := by
  unfold sumOk
  by_cases h1 : ss.length ≤ 300
  · by_cases h2 : ts.length = ss.length
    · by_cases h3 : bs.length = ss.length
      · exact absurd ⟨h1, h2, h3⟩ h
      · simp [h3]
    · simp [h2]
  · simp [h1]

theorem item_none {ss : List ByteArray} {ts bs : List Int} {k : Nat} (h : termOf (sAt ss k) = none) : itemOk ss ts bs k = false := by
  unfold itemOk
  unfold sAt at h
  rw [h]
  simp

/-- The pool behind a text that is read. -/
theorem RsRel.pool2 {F : Nat → Prop} {w wr w2 : World} {p m n k n' n2 : Nat} {sv tv bv : Value} {ss : List ByteArray} {ts bs : List Int} {D' Dm D2 : DataW Value} (h : RsRel F w wr p m n sv tv bv ss ts bs k D' n' Dm) (hFm : ¬ F m) (hmw : m < w.heap.size) (_ : wr.grownBy w2 (some m))
    (hp2 : Pool (fun q => ((F q ∨ w.heap.size ≤ q) ∧ q ≠ w.heap.size + 1) ∨ wr.heap.size ≤ q) w2 p m n2 D2) : Pool (fun q => (F q ∨ w.heap.size ≤ q) ∧ q ≠ w.heap.size + 1) w2 p m n2 D2 := by
  have h1 := h.map.1.lt
  have h2 := h.grown.size
  refine hp2.wider ?_ ?_
  · rintro q (hq | hq)
    · exact hq
    · exact ⟨.inr (by omega), by omega⟩
  · rintro ⟨hq | hq, -⟩
    · exact hFm hq
    · omega

set_option maxRecDepth 100000 in
/-- One item more. -/
theorem RsRel.next {F : Nat → Prop} {w wr w2 w6 w7 : World} {p m n k n' n2 : Nat} {sv tv bv v : Value} {ss : List ByteArray} {ts bs : List Int} {D' Dm D2 : DataW Value} (h : RsRel F w wr p m n sv tv bv ss ts bs k D' n' Dm) (hFm : ¬ F m) (hmw : m < w.heap.size) (hpw : p < w.heap.size) (hlt : k < ss.length) (hitem : itemOk ss ts bs k = true)
    (hg2 : wr.grownBy w2 (some m)) (hn2 : n2 ≤ n' + 300) (hp2 : Pool (fun q => ((F q ∨ w.heap.size ≤ q) ∧ q ≠ w.heap.size + 1) ∨ wr.heap.size ≤ q) w2 p m n2 D2) (hb6 : Below w2.heap.size w2 w6)
    (hf : FracRep w6 v (decide (ts.getD k 0 < 0)) (ts.getD k 0).natAbs (bs.getD k 0).natAbs) (ho : w7.ownsMap Tryz.prog 9 RV (w.heap.size + 1) (k + 1) (Dm.put (.string (sAt ss k)) (.held v))) (hg7 : w6.grownBy w7 (some (w.heap.size + 1))) :
    RsRel F w w7 p m n sv tv bv ss ts bs (k + 1) D2 n2 (Dm.put (.string (sAt ss k)) (.held v)) := by
  have h1 := h.map.1.lt
  have h2 := h.grown.size
  have h3 := hg2.size
  have h4 := hb6.size
  have hok : ∀ i, i < k + 1 → itemOk ss ts bs i = true := fun i hi => by
    by_cases e : i = k
    · subst e; exact hitem
    · exact h.ok i (by omega)
  have hblk : ∀ q, q < w2.heap.size → q ≠ w.heap.size + 1 → w7.heap[q]? = w2.heap[q]? := fun q hq hne => (hg7.block q (by omega) (by intro e; injection e with e; exact hne e)).trans (hb6.block q hq)
  have hb0 := h.box.lt
  have hmap2 : FracMap w2 (w.heap.size + 1) Dm ss ts bs k := h.map.kept h.pool.map (by omega) hg2
  refine ⟨hlt, hok, ?_, ?_, ?_, ?_, ?_⟩
  · have hx : Blk w2 w.heap.size _ _ := h.box.grown hg2 (by intro e; injection e with e; omega)
    exact (hblk _ (by omega) (by omega)).trans hx
  · have hp3 := h.pool2 hFm hmw hg2 hp2
    refine hp3.go (hblk p (by omega) (by omega)) (hblk m (by omega) (by omega)) (fun q hq hq2 => hblk q hq2 hq.2) (fun q hq _ => hq) ?_
    exact hp3.far
  · have := h.cnt
    omega
  · have hG := h.grown.trans hg2
    refine ⟨hg7.os.trans (hb6.os.trans hG.os), hg7.tape.trans (hb6.tape.trans hG.tape), hg7.output.trans (hb6.output.trans hG.output), by have := hg7.size; omega, fun q hq hne => ?_⟩
    rw [hblk q (by omega) (by omega)]
    exact hG.block q hq hne
  · exact (hmap2.below hb6).next (items_ne hok) hf ho hg7

theorem item_zero {ss : List ByteArray} {ts bs : List Int} {k : Nat} (h : ts.getD k 0 = 0) : itemOk ss ts bs k = false := by
  unfold itemOk
  rw [h]
  simp

theorem item_small {ss : List ByteArray} {ts bs : List Int} {k : Nat} (h : smallF (ts.getD k 0) (bs.getD k 0) = false) : itemOk ss ts bs k = false := by
  unfold itemOk
  rw [h]
  simp

theorem item_low {ss : List ByteArray} {ts bs : List Int} {k : Nat} (h : Nat.gcd (ts.getD k 0).natAbs (bs.getD k 0).natAbs ≠ 1) : itemOk ss ts bs k = false := by
  unfold itemOk
  have : (Nat.gcd (ts.getD k 0).natAbs (bs.getD k 0).natAbs == 1) = false := by simpa using h
  rw [this]
  simp

theorem item_order {ss : List ByteArray} {ts bs : List Int} {k : Nat} (h0 : k ≠ 0) (h : ltB (sAt ss (k - 1)) (sAt ss k) = false) : itemOk ss ts bs k = false := by
  unfold itemOk
  unfold sAt at h
  rw [h]
  simp [h0]

theorem item_yes {ss : List ByteArray} {ts bs : List Int} {k : Nat} {t : Term} (h1 : termOf (sAt ss k) = some t) (h2 : smallF (ts.getD k 0) (bs.getD k 0) = true) (h3 : ts.getD k 0 ≠ 0) (h4 : k = 0 ∨ ltB (sAt ss (k - 1)) (sAt ss k) = true) (h5 : Nat.gcd (ts.getD k 0).natAbs (bs.getD k 0).natAbs = 1) : itemOk ss ts bs k = true := by
  unfold itemOk
  unfold sAt at h1 h4
  rw [h1, h2, h5]
  rcases h4 with h4 | h4
  · subst h4; simpa using h3
  · rw [h4]; simpa using h3

theorem smallF_parts {t b : Int} (h : smallF t b = true) : -1000000000 ≤ t ∧ t ≤ 1000000000 ∧ 1 ≤ b ∧ b ≤ 1000000000 := by
  unfold smallF at h
  simp only [Bool.and_eq_true, decide_eq_true_eq] at h
  omega

set_option maxHeartbeats 6400000 in
set_option maxRecDepth 100000 in
theorem readSum_any (F : Nat → Prop) (p m n : Nat) (D : DataW Value) (A B C : Option Addr) (ca cb cc : Nat) (ss : List ByteArray) (ts bs : List Int) (w : World) (hn : n ≤ 600000) (hs : ∀ s ∈ ss, s.size ≤ maxLen) (hl1 : ss.length ≤ maxLen) (_ : ts.length ≤ maxLen) (_ : bs.length ≤ maxLen)
    (hA : Texts w A ss) (hB : Ints w B ts) (hC : Ints w C bs) (hP : Pool F w p m n D) :
    Calls Tryz.prog 53 #[.pointer (some ⟨p, 0, none⟩), .agg #[.slice A ss.length ca, .slice B ts.length cb, .slice C bs.length cc]] w (SumPost F w p m n ss ts bs) := by
  have hmw : m + 1 ≤ w.heap.size := hP.map.lt
  have hpw : p + 1 ≤ w.heap.size := hP.plt
  unfold maxLen at hl1
  by_cases hlen : ss.length ≤ 300 ∧ ts.length = ss.length ∧ bs.length = ss.length
  · obtain ⟨h1, h2, h3⟩ := hlen
    have HS := Lib.hid hs
    have HA := Lib.hid hA
    have HB := Lib.hid hB
    have HC := Lib.hid hC
    have HP := Lib.hid hP
    have HL : Hid (ts.length = ss.length ∧ bs.length = ss.length) := ⟨h2, h3⟩
    rw [h2, h3]
    have d1 : decide ((ss.length : Int) > 300) = false := by rw [decide_eq_false_iff_not]; omega
    have d2 : ((ss.length : Int) != (ss.length : Int)) = false := by simp
    obtain ⟨x, hx⟩ : ∃ x, x = sumOk ss ts bs := ⟨_, rfl⟩
    have HX := Lib.hid hx
    have HGOAL : Hid (∀ e w', (w.grownBy w' (some m) ∧ SumRes F w p m n ss ts bs x e w') → SumPost F w p m n ss ts bs e w') := by
      subst hx
      exact fun e w' h => h
    have HOKX : Hid ((∀ i, i < ss.length → itemOk ss ts bs i = true) → x = true) := fun h => by rw [hx]; exact sumOk_true h1 h2 h3 h
    have HNOX : Hid (∀ k, k < ss.length → itemOk ss ts bs k = false → x = false) := fun k hk h => by rw [hx]; exact sumOk_false hk h
    clear hx hs hA hB hC hP h2 h3
    refine (Calls.mono ?_ HGOAL.out)
    have hmm := @run_makeMap Tryz.prog
    go_enter Tryz.func53, Tryz.ntmps53
    go_wp2_with fail
    clear hmm
    go_loopw [40] (fun iv wr => ∃ k D' n' Dm, iv = .int .i64 (k : Nat) ∧ Hid (RsRel F w wr p m n (.slice A ss.length ca) (.slice B ss.length cb) (.slice C ss.length cc) ss ts bs k D' n' Dm)) (fun iv _ => ss.length - (intOf iv).toNat)
    case atStart =>
      refine ⟨0, D, n, .map [], rfl, ⟨Nat.zero_le _, fun i hi => by omega, ?_, ?_, by omega, ?_, ?_⟩⟩
      · exact (Blk.new w 25 _).alloc _
      · have hb : Below w.heap.size w ((w.alloc (.cells #[.slice A ss.length ca, .slice B ss.length cb, .slice C ss.length cc] 25)).alloc (.map #[] 0)) := by go_grown
        refine HP.out.go (hb.block p HP.out.plt) (hb.block m HP.out.map.lt) (fun q _ hq => hb.block q hq) (fun q hq hq2 => ⟨.inl hq, by omega⟩) ?_
        rintro ⟨h | h, -⟩
        · exact HP.out.far h
        · omega
      · exact below_grown (by go_grown) _
      · refine ⟨?_, isMap_empty, fun key hk => by simp [Maps.has] at hk, fun j hj => by omega⟩
        have := World.ownsMap_made (w.alloc (.cells #[.slice A ss.length ca, .slice B ss.length cb, .slice C ss.length cc] 25)) Tryz.prog 9 RV
        simpa using this
    case round =>
      obtain ⟨k, D', n', Dm, rfl, hrel⟩ := hrel
      have hk := hrel.out.le
      have hgr := hrel.out.grown
      by_cases hlt : k < ss.length
      · obtain ⟨s, hsk⟩ : ∃ s, ss[k]? = some s := ⟨_, List.getElem?_eq_getElem hlt⟩
        have hsA : sAt ss k = s.data.toList := by unfold sAt; rw [List.getD, hsk]; rfl
        obtain ⟨T, hTk⟩ : ∃ T, ts[k]? = some T := ⟨_, List.getElem?_eq_getElem (by rw [HL.out.1]; exact hlt)⟩
        obtain ⟨Z, hZk⟩ : ∃ Z, bs[k]? = some Z := ⟨_, List.getElem?_eq_getElem (by rw [HL.out.2]; exact hlt)⟩
        have hT : ts.getD k 0 = T := by rw [List.getD, hTk]; rfl
        have hZ : bs.getD k 0 = Z := by rw [List.getD, hZk]; rfl
        have hAr := HA.out.grown HP.out.map hgr
        have hBr := HB.out.grown HP.out.map hgr
        have hCr := HC.out.grown HP.out.map hgr
        obtain ⟨c0, c1, c2⟩ := blk_three hrel.out.box
        obtain ⟨g, o, hAe, e1⟩ := hAr k s hsk
        obtain ⟨gB, oB, hBe, -⟩ := hBr k T hTk
        obtain ⟨gC, oC, hCe, -⟩ := hCr k Z hZk
        subst hAe
        subst hBe
        subst hCe
        have hcnt := hrel.out.cnt
        have HCR := Lib.hid (read_few _ p m n' D' s (HS.out s (List.mem_of_getElem? hsk)) wr (by omega) hrel.out.pool)
        have hsz := HS.out s (List.mem_of_getElem? hsk)
        go_wp2_with fail
        refine HCR.out.mono ?_
        intro e w2 hq
        cases ht : termOf s.data.toList with
        | none =>
          rw [ht] at hq
          obtain ⟨hg2, rfl⟩ := hq
          have HXF : Hid (x = false) := HNOX.out k hlt (item_none (by rw [hsA]; exact ht))
          have HGF := Lib.hid (hgr.trans hg2)
          clear hsA hT hZ hAr hBr hCr hg2 ht hgr
          go_wp2_with fail
          go_ret2
          exact ⟨HGF.out, by rw [HXF.out]; rfl⟩
        | some t =>
          rw [ht] at hq
          obtain ⟨hg2, v, D2, n2, rfl, hn2, hv, hp2⟩ := hq
          obtain ⟨b2, _, _, _, rfl, -, -⟩ := RepPF.head _ _ hv
          have HGF := Lib.hid (hgr.trans hg2)
          have hbx2 : Blk w2 w.heap.size 25 _ := hrel.out.box.grown hg2 (by intro e; injection e with e; omega)
          obtain ⟨f0, f1, f2⟩ := blk_three hbx2
          have hA2 := hAr.grown hrel.out.pool.map hg2
          have HA2 := Lib.hid hA2
          obtain ⟨gB', oB', eB', eB⟩ := hBr.grown hrel.out.pool.map hg2 k T hTk
          obtain ⟨gC', oC', eC', eC⟩ := hCr.grown hrel.out.pool.map hg2 k Z hZk
          injection eB' with eB'; injection eB' with q1 q2; subst q1; subst q2
          injection eC' with eC'; injection eC' with q1 q2; subst q1; subst q2
          have HT := Lib.hid ht
          have HG2 := Lib.hid hg2
          have HP2 := Lib.hid hp2
          have HSA := Lib.hid hsA
          have HTT := Lib.hid hT
          have HZZ := Lib.hid hZ
          have HM2 := Lib.hid (hrel.out.map.kept hrel.out.pool.map (by omega) hg2)
          have HBX2 := Lib.hid hbx2
          have eBd : w2.drew.cell? ⟨gB, oB + k, none⟩ = some (.int .i64 T) := eB
          have eCd : w2.drew.cell? ⟨gC, oC + k, none⟩ = some (.int .i64 Z) := eC
          have hw2m := HM2.out.1.lt
          clear ht hg2 hp2 hsA hT hZ hAr hBr hCr hgr hv hbx2 hA2 HCR
          have hord : k = 0 ∨ (∃ k' sP, k = k' + 1 ∧ ss[k']? = some sP) := by
            by_cases h0 : k = 0
            · exact .inl h0
            · exact .inr ⟨k - 1, ss[k - 1], by omega, List.getElem?_eq_getElem (by omega)⟩
          rcases hord with h0 | ⟨k', sP, hk', hsP⟩
          · have HO : Hid (k = 0 ∨ ltB (sAt ss (k - 1)) (sAt ss k) = true) := .inl h0
            have d5 : decide ((k : Int) > 0) = false := by rw [decide_eq_false_iff_not]; omega
            have d6 : ¬ 0 < k := by omega
            clear h0
            go_wp2_with fail
            have hZ0 : True := trivial
            by_cases hT0 : T = 0
            · have HXF : Hid (x = false) := HNOX.out k hlt (item_zero (HTT.out.trans hT0))
              subst hT0
              go_region
              all_goals
                go_wp2_with fail
                go_ret2
                exact ⟨HGF.out.trans (below_grown (by go_grown) _), by rw [HXF.out]; rfl⟩
            · have hT1 : (T == 0) = false := by simpa using hT0
              cases hsm : smallF T Z
              · have HXF : Hid (x = false) := HNOX.out k hlt (item_small (by rw [HTT.out, HZZ.out]; exact hsm))
                go_region
                all_goals
                  go_wp2_with (go_at_call 39; refine (isFraction_any _ _ _).mono ?_; rintro e w' ⟨rfl, rfl⟩)
                  go_ret2
                  exact ⟨HGF.out.trans (below_grown (by go_grown) _), by rw [HXF.out]; rfl⟩
              · obtain ⟨l1, l2, l3, l4⟩ := smallF_parts hsm
                have HSM := Lib.hid hsm
                go_region
                all_goals
                  go_wp2_with (go_at_call 39; refine (isFraction_any _ _ _).mono ?_; rintro e w' ⟨rfl, rfl⟩)
                  refine (fractionOf_any T Z _ l1 l2 l3 l4).mono ?_
                  rintro e w4 ⟨hb4, v4, rfl, hf4⟩
                  obtain ⟨x4, y4, rfl, hx4, hy4⟩ := hf4
                  obtain ⟨A4, n4, c4, rfl, -, -, -, -⟩ := hx4.shape
                  obtain ⟨A5, n5, c5, rfl, -, -, -, -⟩ := hy4.shape
                  have HX4 := Lib.hid hx4
                  have HY4 := Lib.hid hy4
                  have HB4 : Hid (Below w2.heap.size w2 w4) := (show Below w2.heap.size w2 w2.drew by go_grown).trans hb4
                  clear hb4 hx4 hy4
                  have eZ : IntKind.u64.wrap Z = Z := IntWalk.u64_in _ (by omega)
                  go_wp2_with fail
                  have hba : Below w4.heap.size w4 (w4.alloc (.cells #[.bool (decide (T < 0)), .slice A4 n4 c4, .slice A5 n5 c5] 58)) := by go_grown
                  refine (word_any _ (fracBot T Z) _ (HY4.out.below hba)).mono ?_
                  rintro e w6 ⟨rfl, hb6⟩
                  have HB6 : Hid (Below w2.heap.size w2 w6) := HB4.out.trans ((hba.mono HB4.out.size).trans (hb6.mono (by have := HB4.out.size; simp; omega)))
                  have HB46 : Hid (Below w4.heap.size w4 w6) := hba.trans (hb6.mono (by simp))
                  by_cases hgcd : Nat.gcd T.natAbs Z.natAbs = 1
                  · have q1 : fracTop T Z = T.natAbs := by unfold fracTop; rw [hgcd, Nat.div_one]
                    have q2 : fracBot T Z = Z.natAbs := by unfold fracBot; rw [hgcd, Nat.div_one]
                    have HF : Hid (FracRep w6 (.agg #[.bool (decide (T < 0)), .slice A4 n4 c4, .slice A5 n5 c5]) (decide (ts.getD k 0 < 0)) (ts.getD k 0).natAbs (bs.getD k 0).natAbs) := by
                      rw [HTT.out, HZZ.out, ← q1, ← q2]
                      exact frac_mk (HX4.out.below HB46.out) (HY4.out.below HB46.out)
                    have q3 : ((fracBot T Z : Nat) : Int) = Z := by rw [q2]; omega
                    have q4 : (((fracBot T Z : Nat) : Int) != Z) = false := by rw [q3]; simp
                    have hbk := (Blk.new w4 58 #[.bool (decide (T < 0)), .slice A4 n4 c4, .slice A5 n5 c5]).below hb6 (by simp)
                    obtain ⟨z0, z1, z2⟩ := blk_three hbk
                    have hse : s = ⟨s.data.toList.toArray⟩ := by cases s; simp
                    have hkey : keyOf Tryz.prog 9 (.string s) = some (.string (sAt ss k)) := by
                      rw [HSA.out]
                      have h9 : (⟨s.data.toList.toArray⟩ : ByteArray).size ≤ maxLen := by rw [← hse]; exact hsz
                      have h8 := keyOf_string_mk (P := Tryz.prog) Tryz.underlying9 h9
                      rw [← hse] at h8
                      exact h8
                    obtain ⟨w7, hrun7, hown7, hg7⟩ := World.ownsMap.update (t := 53) (e := 58) (w := w6) (HM2.out.below HB6.out).1 (string_keyed Tryz.underlying9) Tryz.underlying53 (by unfold maxLen; omega) hkey (val := .agg #[.bool (decide (T < 0)), .slice A4 n4 c4, .slice A5 n5 c5]) (d := .held (.agg #[.bool (decide (T < 0)), .slice A4 n4 c4, .slice A5 n5 c5])) (ps := []) rfl
                    have HREL : Hid (RsRel F w w7 p m n _ _ _ ss ts bs (k + 1) D2 n2 _) := hrel.out.next HP.out.far hmw hpw hlt (item_yes (by rw [HSA.out]; exact HT.out) (by rw [HTT.out, HZZ.out]; exact HSM.out) (by rw [HTT.out]; exact hT0) HO.out (by rw [HTT.out, HZZ.out]; exact hgcd)) HG2.out hn2 HP2.out HB6.out HF.out hown7 hg7
                    clear hown7 hg7 hkey hse hbk q1 q2 hgcd hb6 hba
                    go_wp2_with fail
                    go_roundw
                    case rel => exact ⟨k + 1, D2, n2, _, by go_num, HREL.out⟩
                    case measure => simp [intOf]; omega
                  · have HXF : Hid (x = false) := HNOX.out k hlt (item_low (by rw [HTT.out, HZZ.out]; exact hgcd))
                    have q3 : ((fracBot T Z : Nat) : Int) ≠ Z := by
                      intro e
                      apply hgcd
                      refine (lowest_iff T.natAbs Z.natAbs (by omega)).1 ?_
                      show fracBot T Z = Z.natAbs
                      omega
                    have q4 : (((fracBot T Z : Nat) : Int) != Z) = true := by simpa using q3
                    have HGZ : Hid (Below w2.heap.size w2 w6) := HB6
                    have hbk := (Blk.new w4 58 #[.bool (decide (T < 0)), .slice A4 n4 c4, .slice A5 n5 c5]).below hb6 (by simp)
                    obtain ⟨z0, z1, z2⟩ := blk_three hbk
                    clear hgcd hb6 hba hbk
                    go_wp2_with fail
                    go_ret2
                    exact ⟨HGF.out.trans (below_grown HGZ.out _), by rw [HXF.out]; rfl⟩
          · subst hk'
            have hd5 : decide (((k' + 1 : Nat) : Int) > 0) = true := by rw [decide_eq_true_eq]; omega
            have hix : IntKind.i64.wrap (k' : Int) = (k' : Int) := IntWalk.i64_in _ (by omega)
            have hix2 : IntKind.i64.wrap (((k' + 1 : Nat) : Int) - 1) = (k' : Int) := by rw [show (((k' + 1 : Nat) : Int) - 1) = (k' : Int) by omega]; exact hix
            obtain ⟨gA', oA', eA', eA⟩ := HA2.out k' sP hsP
            injection eA' with eA'; injection eA' with q1 q2; subst q1; subst q2
            have hsP' : sAt ss (k' + 1 - 1) = sP.data.toList := by unfold sAt; rw [show k' + 1 - 1 = k' by omega, List.getD, hsP]; rfl
            have hcmp : Op.bytesLess sP.toList s.toList = ltB (sAt ss (k' + 1 - 1)) (sAt ss (k' + 1)) := by rw [hsP', HSA.out, ByteArray.toList_eq, ByteArray.toList_eq, bytesLess_ltB]
            have hi1 : (k' : Int) < (ss.length : Int) := by omega
            clear hsP' hsP
            cases hlo : ltB (sAt ss (k' + 1 - 1)) (sAt ss (k' + 1))
            · have HXF : Hid (x = false) := HNOX.out (k' + 1) hlt (item_order (by omega) hlo)
              rw [hlo] at hcmp
              clear hlo
              go_wp2_with fail
              go_ret2
              exact ⟨HGF.out, by rw [HXF.out]; rfl⟩
            · have HO : Hid (k' + 1 = 0 ∨ ltB (sAt ss (k' + 1 - 1)) (sAt ss (k' + 1)) = true) := .inr hlo
              rw [hlo] at hcmp
              clear hlo
              go_wp2_with fail
              have hZ0 : True := trivial
              by_cases hT0 : T = 0
              · have HXF : Hid (x = false) := HNOX.out (k' + 1) hlt (item_zero (HTT.out.trans hT0))
                subst hT0
                go_region
                all_goals
                  go_wp2_with fail
                  go_ret2
                  exact ⟨HGF.out.trans (below_grown (by go_grown) _), by rw [HXF.out]; rfl⟩
              · have hT1 : (T == 0) = false := by simpa using hT0
                cases hsm : smallF T Z
                · have HXF : Hid (x = false) := HNOX.out (k' + 1) hlt (item_small (by rw [HTT.out, HZZ.out]; exact hsm))
                  go_region
                  all_goals
                    go_wp2_with (go_at_call 39; refine (isFraction_any _ _ _).mono ?_; rintro e w' ⟨rfl, rfl⟩)
                    go_ret2
                    exact ⟨HGF.out.trans (below_grown (by go_grown) _), by rw [HXF.out]; rfl⟩
                · obtain ⟨l1, l2, l3, l4⟩ := smallF_parts hsm
                  have HSM := Lib.hid hsm
                  go_region
                  all_goals
                    go_wp2_with (go_at_call 39; refine (isFraction_any _ _ _).mono ?_; rintro e w' ⟨rfl, rfl⟩)
                    refine (fractionOf_any T Z _ l1 l2 l3 l4).mono ?_
                    rintro e w4 ⟨hb4, v4, rfl, hf4⟩
                    obtain ⟨x4, y4, rfl, hx4, hy4⟩ := hf4
                    obtain ⟨A4, n4, c4, rfl, -, -, -, -⟩ := hx4.shape
                    obtain ⟨A5, n5, c5, rfl, -, -, -, -⟩ := hy4.shape
                    have HX4 := Lib.hid hx4
                    have HY4 := Lib.hid hy4
                    have HB4 : Hid (Below w2.heap.size w2 w4) := (show Below w2.heap.size w2 w2.drew by go_grown).trans hb4
                    clear hb4 hx4 hy4
                    have eZ : IntKind.u64.wrap Z = Z := IntWalk.u64_in _ (by omega)
                    go_wp2_with fail
                    have hba : Below w4.heap.size w4 (w4.alloc (.cells #[.bool (decide (T < 0)), .slice A4 n4 c4, .slice A5 n5 c5] 58)) := by go_grown
                    refine (word_any _ (fracBot T Z) _ (HY4.out.below hba)).mono ?_
                    rintro e w6 ⟨rfl, hb6⟩
                    have HB6 : Hid (Below w2.heap.size w2 w6) := HB4.out.trans ((hba.mono HB4.out.size).trans (hb6.mono (by have := HB4.out.size; simp; omega)))
                    have HB46 : Hid (Below w4.heap.size w4 w6) := hba.trans (hb6.mono (by simp))
                    by_cases hgcd : Nat.gcd T.natAbs Z.natAbs = 1
                    · have q1 : fracTop T Z = T.natAbs := by unfold fracTop; rw [hgcd, Nat.div_one]
                      have q2 : fracBot T Z = Z.natAbs := by unfold fracBot; rw [hgcd, Nat.div_one]
                      have HF : Hid (FracRep w6 (.agg #[.bool (decide (T < 0)), .slice A4 n4 c4, .slice A5 n5 c5]) (decide (ts.getD (k' + 1) 0 < 0)) (ts.getD (k' + 1) 0).natAbs (bs.getD (k' + 1) 0).natAbs) := by
                        rw [HTT.out, HZZ.out, ← q1, ← q2]
                        exact frac_mk (HX4.out.below HB46.out) (HY4.out.below HB46.out)
                      have q3 : ((fracBot T Z : Nat) : Int) = Z := by rw [q2]; omega
                      have q4 : (((fracBot T Z : Nat) : Int) != Z) = false := by rw [q3]; simp
                      have hbk := (Blk.new w4 58 #[.bool (decide (T < 0)), .slice A4 n4 c4, .slice A5 n5 c5]).below hb6 (by simp)
                      obtain ⟨z0, z1, z2⟩ := blk_three hbk
                      have hse : s = ⟨s.data.toList.toArray⟩ := by cases s; simp
                      have hkey : keyOf Tryz.prog 9 (.string s) = some (.string (sAt ss (k' + 1))) := by
                        rw [HSA.out]
                        have h9 : (⟨s.data.toList.toArray⟩ : ByteArray).size ≤ maxLen := by rw [← hse]; exact hsz
                        have h8 := keyOf_string_mk (P := Tryz.prog) Tryz.underlying9 h9
                        rw [← hse] at h8
                        exact h8
                      obtain ⟨w7, hrun7, hown7, hg7⟩ := World.ownsMap.update (t := 53) (e := 58) (w := w6) (HM2.out.below HB6.out).1 (string_keyed Tryz.underlying9) Tryz.underlying53 (by unfold maxLen; omega) hkey (val := .agg #[.bool (decide (T < 0)), .slice A4 n4 c4, .slice A5 n5 c5]) (d := .held (.agg #[.bool (decide (T < 0)), .slice A4 n4 c4, .slice A5 n5 c5])) (ps := []) rfl
                      have HREL : Hid (RsRel F w w7 p m n _ _ _ ss ts bs ((k' + 1) + 1) D2 n2 _) := hrel.out.next HP.out.far hmw hpw hlt (item_yes (by rw [HSA.out]; exact HT.out) (by rw [HTT.out, HZZ.out]; exact HSM.out) (by rw [HTT.out]; exact hT0) HO.out (by rw [HTT.out, HZZ.out]; exact hgcd)) HG2.out hn2 HP2.out HB6.out HF.out hown7 hg7
                      clear hown7 hg7 hkey hse hbk q1 q2 hgcd hb6 hba
                      go_wp2_with fail
                      go_roundw
                      case rel => exact ⟨(k' + 1) + 1, D2, n2, _, by go_num, HREL.out⟩
                      case measure => simp [intOf]; omega
                    · have HXF : Hid (x = false) := HNOX.out (k' + 1) hlt (item_low (by rw [HTT.out, HZZ.out]; exact hgcd))
                      have q3 : ((fracBot T Z : Nat) : Int) ≠ Z := by
                        intro e
                        apply hgcd
                        refine (lowest_iff T.natAbs Z.natAbs (by omega)).1 ?_
                        show fracBot T Z = Z.natAbs
                        omega
                      have q4 : (((fracBot T Z : Nat) : Int) != Z) = true := by simpa using q3
                      have HGZ : Hid (Below w2.heap.size w2 w6) := HB6
                      have hbk := (Blk.new w4 58 #[.bool (decide (T < 0)), .slice A4 n4 c4, .slice A5 n5 c5]).below hb6 (by simp)
                      obtain ⟨z0, z1, z2⟩ := blk_three hbk
                      clear hgcd hb6 hba hbk
                      go_wp2_with fail
                      go_ret2
                      exact ⟨HGF.out.trans (below_grown HGZ.out _), by rw [HXF.out]; rfl⟩
      · obtain rfl : k = ss.length := by omega
        have hm := hrel.out.map
        have hp := hrel.out.pool
        have HXT := Lib.hid (HOKX.out hrel.out.ok)
        have HM := Lib.hid hm
        have HPL := Lib.hid hp
        have HG := Lib.hid hgr
        have hcnt := hrel.out.cnt
        clear hm hp hgr hrel
        go_wp2_with fail
        go_ret2
        refine ⟨HG.out, ?_⟩
        rw [HXT.out]
        exact ⟨_, D', n', Dm, rfl, by omega, by omega, HPL.out, HM.out⟩
  · have hx := sumOk_len hlen
    have HX : Hid (SumPost F w p m n ss ts bs = fun e w' => w.grownBy w' (some m) ∧ e = .returned (.tuple #[.map none, .bool false])) := by
      show _ = _
      funext e w'
      unfold SumPost
      rw [hx]
      rfl
    clear hA hB hC hP hs hx
    rw [HX.out]
    by_cases h1 : ss.length ≤ 300
    · by_cases h2 : ts.length = ss.length
      · have h3 : bs.length ≠ ss.length := fun h => hlen ⟨h1, h2, h⟩
        rw [h2]
        have d1 : decide ((ss.length : Int) > 300) = false := by rw [decide_eq_false_iff_not]; omega
        have d2 : ((ss.length : Int) != (ss.length : Int)) = false := by simp
        have d3 : ((bs.length : Int) != (ss.length : Int)) = true := by simp; omega
        clear hlen
        go_enter Tryz.func53, Tryz.ntmps53
        go_wp2_with fail
        go_ret2
        exact ⟨below_grown (by go_grown) _, rfl⟩
      · have d1 : decide ((ss.length : Int) > 300) = false := by rw [decide_eq_false_iff_not]; omega
        have d2 : ((ts.length : Int) != (ss.length : Int)) = true := by simp; omega
        clear hlen
        go_enter Tryz.func53, Tryz.ntmps53
        go_wp2_with fail
        go_ret2
        exact ⟨below_grown (by go_grown) _, rfl⟩
    · have d1 : decide ((ss.length : Int) > 300) = true := by rw [decide_eq_true_eq]; omega
      clear hlen
      go_enter Tryz.func53, Tryz.ntmps53
      go_wp2_with fail
      go_ret2
      exact ⟨below_grown (by go_grown) _, rfl⟩

end Go.Proofs.YtopmkddmllmecaaGreatDoor
