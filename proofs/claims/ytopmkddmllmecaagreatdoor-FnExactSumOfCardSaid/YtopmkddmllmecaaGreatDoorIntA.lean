/- Rows of ints: szIntS, toIntS, eqIntS, markIntS, heldIntS of the laws. -/
import Derived.Test.YtopmkddmllmecaaGreatDoorSpecI
import Derived.OwnWalk
namespace Go.Proofs.YtopmkddmllmecaaGreatDoor
open Go.RowKit Rt

/-- A row of ints that is read alone. -/
def Ints (w : World) (A : Option Addr) (ss : List Int) : Prop := ∀ (j : Nat) (s : Int), ss[j]? = some s → ∃ g o, A = some ⟨g, o, none⟩ ∧ w.cell? ⟨g, o + j, none⟩ = some (.int .i64 s)

def intv (ss : List Int) : List Value := ss.map (Value.int .i64)

theorem int_info : (Tryz.prog.info? 3).map (fun i => (i.zero, i.size, i.bytes)) = some (some (.int .i64 0), 1, 8) := by kernel_rfl

theorem Ints.below {w w' : World} {A : Option Addr} {ss : List Int} (h : Ints w A ss) (hb : Below w.heap.size w w') : Ints w' A ss := fun j s hs => by
  obtain ⟨g, o, e, hc⟩ := h j s hs
  exact ⟨g, o, e, (hb.cell (p := ⟨g, o + j, none⟩) (World.block_lt_of_cell? w _ hc)).trans hc⟩

theorem Ints.own {w : World} {g c B : Nat} {ss : List Int} (h : w.ownsRow B 3 1 (.slice (some ⟨g, 0, none⟩) ss.length c) ss.length (intv ss)) : Ints w (some ⟨g, 0, none⟩) ss := fun j s hs => by
  have hj : j < ss.length := (List.getElem?_eq_some_iff.1 hs).1
  refine ⟨g, 0, rfl, ?_⟩
  rw [Nat.zero_add, h.cellAt j (by omega)]
  unfold intv
  rw [List.getElem?_map, hs]; rfl

theorem Ints.row {w : World} {c B : Nat} {A : Option Addr} {ss : List Int} (h : w.ownsRow B 3 1 (.slice A ss.length c) ss.length (intv ss)) : Ints w A ss := by
  intro j s hs
  obtain ⟨g, rfl, -⟩ := own_cells h (by have := (List.getElem?_eq_some_iff.1 hs).1; omega)
  exact Ints.own h j s hs

theorem szIntS_any (A : Option Addr) (c n : Nat) (left : Int) (w : World) (h0 : 0 ≤ left) (h1 : left ≤ 1048576) (hn : n ≤ maxLen) :
    Calls Tryz.prog 48 #[.slice A n c, .int .i64 left] w fun e w' => e = .returned (.int .i64 (if left - n < 0 then -1 else left - n)) ∧ w = w' := by
  unfold maxLen at hn
  by_cases hneg : left - (n : Int) < 0
  · rw [if_pos hneg]
    have d1 : decide (left - (n : Int) < 0) = true := by simpa using hneg
    go_enter Tryz.func48, Tryz.ntmps48
    go_wp2_with fail
    go_ret
    exact ⟨rfl, rfl⟩
  · rw [if_neg hneg]
    have d1 : decide (left - (n : Int) < 0) = false := by simpa using hneg
    go_enter Tryz.func48, Tryz.ntmps48
    go_wp2_with fail
    go_ret
    exact ⟨rfl, rfl⟩

/-- A copy of ints, in a row of the call's own. -/
def CopyPostI (w : World) (ss : List Int) (e : Ending) (w' : World) : Prop :=
  Below w.heap.size w w' ∧ e = .returned (.slice (some ⟨w.heap.size, 0, none⟩) ss.length ss.length) ∧ w'.ownsRow w.heap.size 3 1 (.slice (some ⟨w.heap.size, 0, none⟩) ss.length ss.length) ss.length (intv ss)

theorem intv_take (ss : List Int) (k : Nat) (s : Int) (z : Value) (h : ss[k]? = some s) : (intv (ss.take k) ++ List.replicate (ss.length - k) z).set k (.int .i64 s) = intv (ss.take (k + 1)) ++ List.replicate (ss.length - (k + 1)) z := by
  have hk : k < ss.length := (List.getElem?_eq_some_iff.1 h).1
  have hl : (intv (ss.take k)).length = k := by simp [intv]; omega
  rw [List.set_append_right _ _ (by omega), hl, Nat.sub_self, show ss.length - k = (ss.length - (k + 1)) + 1 by omega, List.replicate_succ, List.set_cons_zero, List.take_add_one, h]
  simp [intv]

theorem made_ints (n : Nat) : (madeCells (Value.int .i64 0).cells (n * 1)).toList = List.replicate n (Value.int .i64 0) := by
  have hc : (Value.int .i64 0).cells = #[Value.int .i64 0] := rfl
  rw [hc, Nat.mul_one]
  apply List.ext_getElem
  · simp [madeCells]
  · intro i h1 h2
    simp [madeCells, Nat.mod_one]

set_option maxHeartbeats 1600000 in
set_option maxRecDepth 100000 in
theorem toIntS_any (A : Option Addr) (c : Nat) (ss : List Int) (w : World) (hn : ss.length ≤ 1048576) (hA : Ints w A ss) :
    Calls Tryz.prog 51 #[.slice A ss.length c] w (CopyPostI w ss) := by
  obtain ⟨i0, hi0, hz0, hz1, hz2⟩ := info_parts int_info
  have HA := Lib.hid hA
  clear hA
  go_enter Tryz.func51, Tryz.ntmps51
  go_wp2_with (at_make; refine wpList_make_full _ rfl _ _ 23 rfl w.heap.size 3 i0 (.int .i64 0) 1 Tryz.underlying23 hi0 hz0 hz1 .i64 .i64 _ _ ss.length rfl rfl rfl rfl (by rw [hz2]; omega) (by unfold maxLen; omega) (Nat.le_refl _) ?_; intro w1 hown1 hg1; rw [made_ints] at hown1; have H1 : Hid (w1.ownsRow w.heap.size 3 1 (.slice (some ⟨w.heap.size, 0, none⟩) ss.length ss.length) ss.length (intv (ss.take 0) ++ List.replicate (ss.length - 0) (.int .i64 0))) := (by show World.ownsRow _ _ _ _ _ _ _; rw [List.take_zero, Nat.sub_zero]; exact hown1); have HB1 : Hid (Below w.heap.size w w1) := ⟨hg1.os, hg1.tape, hg1.output, hg1.size, fun k hk => hg1.block k hk (by simp)⟩; clear hown1 hg1)
  go_loopw [4] (fun iv wr => ∃ k : Nat, k ≤ ss.length ∧ iv = .int .i64 k ∧ Hid (wr.ownsRow w.heap.size 3 1 (.slice (some ⟨w.heap.size, 0, none⟩) ss.length ss.length) ss.length (intv (ss.take k) ++ List.replicate (ss.length - k) (.int .i64 0))) ∧ Hid (Below w.heap.size w wr)) (fun iv _ => ss.length - (intOf iv).toNat)
  case atStart => exact ⟨0, Nat.zero_le _, rfl, H1.out, HB1.out⟩
  case round =>
    obtain ⟨k, hk, rfl, hown, hbel⟩ := hrel
    by_cases hlt : k < ss.length
    · obtain ⟨s, hsk⟩ : ∃ s, ss[k]? = some s := ⟨_, List.getElem?_eq_getElem hlt⟩
      obtain ⟨g, o, rfl, e0⟩ := HA.out k s hsk
      have hg : g < w.heap.size := World.block_lt_of_cell? w _ e0
      have e1 : wr.cell? ⟨g, o + k, none⟩ = some (.int .i64 s) := (hbel.out.cell (p := ⟨g, o + k, none⟩) hg).trans e0
      have hst := (hown.out.stored k (.int .i64 s)).1
      rw [intv_take ss k s _ hsk] at hst
      have HST := Lib.hid hst
      obtain ⟨g4, e4, _, _, _, _, h5⟩ := own_cells hown.out (by omega)
      injection e4 with e4
      injection e4 with e4
      subst e4
      obtain ⟨x, hx⟩ : ∃ x, (intv (ss.take k) ++ List.replicate (ss.length - k) (Value.int .i64 0))[k]? = some x := ⟨_, List.getElem?_eq_getElem (by simp [intv]; omega)⟩
      have e2 := h5 k x hx
      have e3 := hown.out.frozenAt k
      clear e0 hst h5 hx hsk
      go_wp2_with fail
      go_roundw
      case rel => exact ⟨k + 1, by omega, by go_num, HST.out, hbel.out.setCell (Nat.le_refl _) _⟩
      case measure => simp [intOf]; omega
    · obtain rfl : k = ss.length := by omega
      have H3 := hown.out
      rw [List.take_of_length_le (Nat.le_refl _), Nat.sub_self, List.replicate_zero, List.append_nil] at H3
      have H4 := Lib.hid H3
      clear H3
      go_wp2_with fail
      go_ret
      exact ⟨hbel.out, rfl, H4.out⟩

set_option maxHeartbeats 1600000 in
set_option maxRecDepth 100000 in
theorem eqIntS_same (A C : Option Addr) (c d : Nat) (ss : List Int) (w : World) (hn : ss.length ≤ maxLen) (hA : Ints w A ss) (hC : Ints w C ss) :
    Calls Tryz.prog 43 #[.slice A ss.length c, .slice C ss.length d] w fun e w' => e = .returned (.bool true) ∧ Below w.heap.size w w' := by
  unfold maxLen at hn
  have HA := Lib.hid hA
  have HC := Lib.hid hC
  clear hA hC
  go_enter Tryz.func43, Tryz.ntmps43
  go_wp2_with fail
  go_loopw [5] (fun iv wr => ∃ k : Nat, k ≤ ss.length ∧ iv = .int .i64 k ∧ Hid (Below w.heap.size w wr)) (fun iv _ => ss.length - (intOf iv).toNat)
  case atStart => exact ⟨0, Nat.zero_le _, rfl, Below.refl _ _⟩
  case round =>
    obtain ⟨k, hk, rfl, hbel⟩ := hrel
    by_cases hlt : k < ss.length
    · obtain ⟨s, hsk⟩ : ∃ s, ss[k]? = some s := ⟨_, List.getElem?_eq_getElem hlt⟩
      obtain ⟨g, o, rfl, e0⟩ := (HA.out.below hbel.out) k s hsk
      obtain ⟨g', o', rfl, e1⟩ := (HC.out.below hbel.out) k s hsk
      have hq1 : (s == s) = true := by simp
      have hq2 : (s != s) = false := by simp
      clear hsk
      go_wp2_with fail
      go_region
      all_goals
        go_wp2_with fail
        go_roundw
        case rel => exact ⟨k + 1, by omega, by go_num, hbel.out.drew⟩
        case measure => simp [intOf]; omega
    · obtain rfl : k = ss.length := by omega
      go_wp2_with fail
      go_ret
      exact ⟨rfl, hbel.out⟩

/-- The marks from k on. -/
def imarks (n k : Nat) : List Int := (List.range n).map fun i => ((k + i : Nat) : Int)

theorem imarks_length (n k : Nat) : (imarks n k).length = n := by simp [imarks]
theorem imarks_at (n k j : Nat) (h : j < n) : (imarks n k)[j]? = some ((k + j : Nat) : Int) := by simp [imarks, h]

theorem imarks_set (n k j : Nat) (h : j < n) (vs : List Value) (hl : vs.length = n) : (intv (imarks j k) ++ vs.drop j).set j (.int .i64 ((k + j : Nat) : Int)) = intv (imarks (j + 1) k) ++ vs.drop (j + 1) := by
  have h1 : (intv (imarks j k)).length = j := by simp [intv, imarks]
  rw [List.set_append_right _ _ (by omega), h1, Nat.sub_self, List.drop_eq_getElem_cons (by omega), List.set_cons_zero]
  simp [intv, imarks, List.range_succ]

theorem own_goI {w w' : World} {B n : Nat} {v : Value} {vs : List Value} (h : w.ownsRow B 3 1 v n vs) (hb : Below w.heap.size w w') : w'.ownsRow B 3 1 v n vs :=
  h.kept (row := none) ⟨hb.os, hb.tape, hb.output, hb.size, fun k hk _ => hb.block k hk⟩ (by
    cases hv : v.ownBlock with
    | none => exact .inl rfl
    | some k => exact .inr (by simp))

set_option maxHeartbeats 1600000 in
set_option maxRecDepth 100000 in
theorem heldIntS_same (A : Option Addr) (c n k : Nat) (w : World) (h0 : 0 < k) (hn : n ≤ 1000000) (hk : k ≤ 3000000) (hA : Ints w A (imarks n k)) :
    Calls Tryz.prog 47 #[.slice A n c, .int .i64 k] w fun e w' => e = .returned (.int .i64 (k + n : Nat)) ∧ Below w.heap.size w w' := by
  have HA := Lib.hid hA
  clear hA
  go_enter Tryz.func47, Tryz.ntmps47
  go_wp2_with fail
  go_loopw [1, 5] (fun lv iv wr => ∃ j : Nat, j ≤ n ∧ lv = .int .i64 ((k + j : Nat) : Int) ∧ iv = .int .i64 j ∧ Hid (Below w.heap.size w wr)) (fun _ iv _ => n - (intOf iv).toNat)
  case atStart => exact ⟨0, Nat.zero_le _, rfl, rfl, Below.refl _ _⟩
  case round =>
    obtain ⟨j, hj, rfl, rfl, hbel⟩ := hrel
    by_cases hlt : j < n
    · obtain ⟨g, o, rfl, e0'⟩ := (HA.out.below hbel.out) j _ (imarks_at n k j hlt)
      have e0 : wr.cell? ⟨g, o + j, none⟩ = some (.int .i64 ((k : Int) + (j : Int))) := e0'
      have hq1 : (((k : Int) + (j : Int)) == ((k : Int) + (j : Int))) = true := by simp
      have hq2 : (((k : Int) + (j : Int)) != ((k : Int) + (j : Int))) = false := by simp
      clear e0'
      go_wp2_with fail
      go_roundw
      case rel => exact ⟨j + 1, by omega, by go_num, by go_num, hbel.out⟩
      case measure => simp [intOf]; omega
    · obtain rfl : j = n := by omega
      go_wp2_with fail
      go_ret
      exact ⟨rfl, hbel.out⟩

set_option maxHeartbeats 1600000 in
set_option maxRecDepth 100000 in
theorem markIntS_any (A : Option Addr) (c n k B : Nat) (vs : List Value) (w : World) (h0 : 0 < k) (hn : n ≤ 1000000) (hk : k ≤ 3000000) (hA : w.ownsRow B 3 1 (.slice A n c) n vs) :
    Calls Tryz.prog 45 #[.slice A n c, .int .i64 k] w fun e w' => e = .returned (.int .i64 (k + n : Nat)) ∧ Below B w w' ∧ w'.ownsRow B 3 1 (.slice A n c) n (intv (imarks n k)) := by
  have hlen : vs.length = n := by have := hA.1; omega
  have HST : Hid (∀ j, j < n → (intv (imarks j k) ++ vs.drop j).set j (.int .i64 ((k : Int) + (j : Int))) = intv (imarks (j + 1) k) ++ vs.drop (j + 1)) := fun j h => imarks_set n k j h vs hlen
  have H0 := Lib.hid hA
  have HZ : Hid (intv (imarks n k) ++ vs.drop n = intv (imarks n k)) := by show _ = _; rw [List.drop_of_length_le (by omega), List.append_nil]
  have HZ0 : Hid (intv (imarks 0 k) ++ vs.drop 0 = vs) := by show _ = _; simp [intv, imarks]
  have HAT : Hid (∀ j, j < n → ∃ x, (intv (imarks j k) ++ vs.drop j)[j]? = some x) := fun j h => ⟨_, List.getElem?_eq_getElem (by simp [intv, imarks]; omega)⟩
  clear hA
  go_enter Tryz.func45, Tryz.ntmps45
  go_wp2_with fail
  go_loopw [1, 5] (fun lv iv wr => ∃ j : Nat, j ≤ n ∧ lv = .int .i64 ((k + j : Nat) : Int) ∧ iv = .int .i64 j ∧ Hid (wr.ownsRow B 3 1 (.slice A n c) n (intv (imarks j k) ++ vs.drop j)) ∧ Hid (Below B w wr)) (fun _ iv _ => n - (intOf iv).toNat)
  case atStart => exact ⟨0, Nat.zero_le _, rfl, rfl, by show World.ownsRow _ _ _ _ _ _ _; rw [HZ0.out]; exact H0.out, Below.refl _ _⟩
  case round =>
    obtain ⟨j, hj, rfl, rfl, hown, hbel⟩ := hrel
    by_cases hlt : j < n
    · have HSj := Lib.hid (HST.out j hlt)
      obtain ⟨x, hx⟩ := HAT.out j hlt
      obtain ⟨g, rfl, p1, p0, p3, p4, p5⟩ := own_cells hown.out (by omega)
      have e2 := p5 j x hx
      have e3 := hown.out.frozenAt j
      have hst := (hown.out.stored j (.int .i64 ((k : Int) + (j : Int)))).1
      rw [HSj.out] at hst
      have HST2 := Lib.hid hst
      clear hst p5 hx
      go_wp2_with fail
      go_roundw
      case rel => exact ⟨j + 1, by omega, by go_num, by go_num, HST2.out, hbel.out.setCell p1 _⟩
      case measure => simp [intOf]; omega
    · obtain rfl : j = n := by omega
      have HF := hown.out
      rw [HZ.out] at HF
      have HF2 := Lib.hid HF
      clear HF
      go_wp2_with fail
      go_ret
      exact ⟨rfl, hbel.out, HF2.out⟩

end Go.Proofs.YtopmkddmllmecaaGreatDoor
