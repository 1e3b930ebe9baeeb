/- The program's SumWhole. -/
import Derived.Test.YtdlbgppoochheaaGreatDoorImV
namespace Go.Proofs.YtdlbgppoochheaaGreatDoor
open Go.RowKit Rt Go.Lib

/-- All bottoms are 1. -/
def allOne (bs : List Int) : Bool := bs.all (fun b => b == 1)

theorem allOne_no {bs : List Int} {k : Nat} {b : Int} (h : bs[k]? = some b) (hb : b ≠ 1) : allOne bs = false := by
  unfold allOne
  rw [List.all_eq_false]
  exact ⟨b, List.mem_of_getElem? h, by simpa using hb⟩

theorem allOne_yes {bs : List Int} (h : ∀ i b, i < bs.length → bs[i]? = some b → b = 1) : allOne bs = true := by
  unfold allOne
  rw [List.all_eq_true]
  intro b hb
  obtain ⟨i, hi⟩ := List.mem_iff_getElem?.1 hb
  have := h i b (List.getElem?_eq_some_iff.1 hi).1 hi
  simpa using this

set_option maxHeartbeats 800000 in
set_option maxRecDepth 100000 in
theorem notOne_any (b : Int) (w : World) : Calls Tryz.prog 31 #[.int .i64 b] w fun e w' => e = .returned (.bool (b != 1)) ∧ w = w' := by
  go_enter Tryz.func31, Tryz.ntmps31
  go_wp2_with fail
  go_ret
  exact ⟨rfl, rfl⟩

set_option maxHeartbeats 1600000 in
set_option maxRecDepth 100000 in
theorem indexFunc_any (C : Option Addr) (cc : Nat) (bs : List Int) (w : World) (hl : bs.length ≤ maxLen) (hC : Ints w C bs) :
    Calls Tryz.prog 38 #[.slice C bs.length cc, .func (.func 31) #[] #[]] w fun e w' => (∃ r : Int, e = .returned (.int .i64 r) ∧ decide (r ≥ 0) = !allOne bs) ∧ w = w' := by
  unfold maxLen at hl
  have HC := Lib.hid hC
  have HY : Hid ((∀ i b, i < bs.length → bs[i]? = some b → b = 1) → allOne bs = true) := allOne_yes
  have HN : Hid (∀ (k : Nat) (b : Int), bs[k]? = some b → b ≠ 1 → allOne bs = false) := fun k b h hb => allOne_no h hb
  generalize allOne bs = x at HY HN ⊢
  clear hC
  go_enter Tryz.func38, Tryz.ntmps38
  go_wp2_with fail
  go_loop [8] (fun iv => ∃ k : Nat, k ≤ bs.length ∧ iv = .int .i64 k ∧ Hid (∀ i b, i < k → bs[i]? = some b → b = 1)) (fun iv => bs.length - (intOf iv).toNat)
  case atStart => exact ⟨0, Nat.zero_le _, rfl, fun i b hi => by omega⟩
  case round =>
    obtain ⟨k, hk, rfl, hone⟩ := hrel
    by_cases hlt : k < bs.length
    · obtain ⟨b, hb⟩ : ∃ b, bs[k]? = some b := ⟨_, List.getElem?_eq_getElem hlt⟩
      obtain ⟨g, o, rfl, e1⟩ := HC.out k b hb
      have HB := Lib.hid hb
      clear hb
      by_cases h1 : b = 1
      · have d1 : (b != 1) = false := by simpa using h1
        have H1 := Lib.hid h1
        clear h1
        go_wp2_with (go_at_call 31; refine (notOne_any b _).mono ?_; rintro e w' ⟨rfl, rfl⟩)
        go_round
        case rel =>
          refine ⟨k + 1, by omega, by go_num, fun i c hi hc => ?_⟩
          by_cases e : i = k
          · subst e
            have := HB.out
            rw [hc] at this
            injection this with this
            rw [this]; exact H1.out
          · exact hone.out i c (by omega) hc
        case measure => simp [intOf]; omega
      · have d1 : (b != 1) = true := by simpa using h1
        have HX : Hid (x = false) := HN.out k b HB.out h1
        go_wp2_with (go_at_call 31; refine (notOne_any b _).mono ?_; rintro e w' ⟨rfl, rfl⟩)
        go_ret
        exact ⟨⟨k, rfl, by rw [HX.out]; simp⟩, rfl⟩
    · obtain rfl : k = bs.length := by omega
      have HX : Hid (x = true) := HY.out hone.out
      go_wp2_with fail
      go_ret
      exact ⟨⟨-1, rfl, by rw [HX.out]; rfl⟩, rfl⟩

set_option maxHeartbeats 1600000 in
set_option maxRecDepth 100000 in
theorem containsFunc_any (C : Option Addr) (cc : Nat) (bs : List Int) (w : World) (hl : bs.length ≤ maxLen) (hC : Ints w C bs) :
    Calls Tryz.prog 30 #[.slice C bs.length cc, .func (.func 31) #[] #[]] w fun e w' => e = .returned (.bool (!allOne bs)) ∧ w = w' := by
  have HI := Lib.hid (indexFunc_any C cc bs w hl hC)
  generalize allOne bs = x at HI ⊢
  clear hC
  go_enter Tryz.func30, Tryz.ntmps30
  go_wp2_with fail
  refine HI.out.mono ?_
  rintro e w' ⟨⟨r, rfl, hr⟩, rfl⟩
  go_wp2_with fail
  go_ret
  exact ⟨by first | rfl | (simp at hr; simp [hr]), rfl⟩

set_option maxHeartbeats 1600000 in
set_option maxRecDepth 100000 in
theorem implSumWhole (A B C : Option Addr) (ca cb cc : Nat) (ss : List ByteArray) (ts bs : List Int) (w : World) (hs : ∀ s ∈ ss, s.size ≤ maxLen) (hl1 : ss.length ≤ maxLen) (hl2 : ts.length ≤ maxLen) (hl3 : bs.length ≤ maxLen)
    (hA : Texts w A ss) (hB : Ints w B ts) (hC : Ints w C bs) :
    Calls Tryz.prog 14 #[.agg #[.slice A ss.length ca, .slice B ts.length cb, .slice C bs.length cc]] w fun e w' => e = .returned (.bool (sumOk ss ts bs && allOne bs)) ∧ Below w.heap.size w w' := by
  have hb0 : Below w.heap.size w (w.alloc (.cells #[.slice A ss.length ca, .slice B ts.length cb, .slice C bs.length cc] 28)) := by go_grown
  have HB0 := Lib.hid hb0
  have HV := Lib.hid (implSumValid A B C ca cb cc ss ts bs _ hs hl1 hl2 hl3 (hA.below hb0) (hB.below hb0) (hC.below hb0))
  have HC : Hid (∀ W, Below w.heap.size w W → Calls Tryz.prog 30 #[.slice C bs.length cc, .func (.func 31) #[] #[]] W fun e w' => e = .returned (.bool (!allOne bs)) ∧ W = w') := fun W hb => containsFunc_any C cc bs W hl3 (hC.below hb)
  have hbx := Blk.new w 28 #[.slice A ss.length ca, .slice B ts.length cb, .slice C bs.length cc]
  have HBX := Lib.hid hbx
  clear hA hB hC hb0 hbx hs
  generalize allOne bs = y at HC ⊢
  cases hx : sumOk ss ts bs
  · rw [hx] at HV
    clear hx
    go_enter Tryz.func14, Tryz.ntmps14
    go_wp2_with fail
    refine HV.out.mono ?_
    rintro e w1 ⟨rfl, hb1⟩
    have HB1 := Lib.hid (HB0.out.trans (hb1.mono HB0.out.size))
    clear hb1
    go_wp2_with fail
    go_ret
    exact ⟨rfl, HB1.out⟩
  · rw [hx] at HV
    clear hx
    go_enter Tryz.func14, Tryz.ntmps14
    go_wp2_with fail
    refine HV.out.mono ?_
    rintro e w1 ⟨rfl, hb1⟩
    have HB1 := Lib.hid (HB0.out.trans (hb1.mono HB0.out.size))
    have hx1 := HBX.out.below hb1 HBX.out.lt
    obtain ⟨a0, a1, a2⟩ := blk_three hx1
    clear hb1 hx1
    go_wp2_with fail
    refine (HC.out _ HB1.out).mono ?_
    rintro e w2 ⟨rfl, rfl⟩
    go_wp2_with fail
    go_ret
    exact ⟨by cases y <;> rfl, HB1.out⟩

end Go.Proofs.YtdlbgppoochheaaGreatDoor
