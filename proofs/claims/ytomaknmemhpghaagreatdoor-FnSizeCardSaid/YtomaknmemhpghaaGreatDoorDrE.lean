/- The draws of the laws: redexes, terms, odd texts, names. The draws of stage 1's laws. The draws of more laws of stage 1. -/
import Derived.Test.YtomaknmemhpghaaGreatDoorDrA
import Derived.Test.YtomaknmemhpghaaGreatDoorSpecM
import Derived.Test.YtomaknmemhpghaaGreatDoorSpE
import Derived.Test.YtomaknmemhpghaaGreatDoorOpA
/-! The draws of the laws: redexes, terms, odd texts, names. -/
namespace Go.Proofs.YtomaknmemhpghaaGreatDoor
open Go.RowKit Rt

theorem DrawnPost.more {w W w' : World} {r n c p P K K' L L' : Nat} {A : Option Addr} {e : Ending} (h : DrawnPost W r A n c P K L e w') (hg : w.grownBy W (some r)) (hK : P + K ≤ p + K') (hL : L ≤ L') : DrawnPost w r A n c p K' L' e w' := by
  obtain ⟨s, q, he, hs, hq, hg2, hr⟩ := h
  exact ⟨s, q, he, by omega, by omega, grown_trans hg hg2, hr⟩

set_option maxHeartbeats 1600000 in
set_option maxRecDepth 100000 in
theorem l91Redex_any (r : Nat) (A : Option Addr) (n c p lams : Nat) (w : World) (hR : Rd w r A n c p) (hp : p ≤ 800000) (hl : lams ≤ 10) :
    Calls Tryz.prog 116 #[.pointer (some ⟨r, 0, none⟩), .int .i64 lams] w (DrawnPost w r A n c p 300 400) := by
  have HI : Hid (∀ W P, Rd W r A n c P → P ≤ 810000 → Calls Tryz.prog 56 #[.pointer (some ⟨r, 0, none⟩), .int .i64 lams, .int .i64 1] W (DrawnPost W r A n c P 80 80)) :=
    fun W P h1 h2 => looseSaid 1 r A n c P lams 1 W h1 (by show P + 80 ≤ _; omega) (by show 80 ≤ 10000; omega) (by omega) (by decide) (by decide)
  have HR := Lib.hid hR
  have z32 : (⟨#[32]⟩ : ByteArray).size = 1 := rfl
  have z42 : (⟨#[41, 41]⟩ : ByteArray).size = 2 := rfl
  have z43 : (⟨#[41, 32]⟩ : ByteArray).size = 2 := rfl
  have z10 : (⟨#[40, 97, 112, 112, 32, 40, 108, 97, 109, 32]⟩ : ByteArray).size = 10 := rfl
  have z2 : (⟨#[40, 109]⟩ : ByteArray).size = 2 := rfl
  clear hR
  go_enter Tryz.func116, Tryz.ntmps116
  go_wp2_with fail
  refine Calls.mono (of_lit r A n c p _ _ 40 w HR.out (by omega) rfl rfl (by decide)) ?_
  rintro e w1 ⟨s1, q1, rfl, hs1, hq1, hg1, hr1⟩
  have HG1 := Lib.hid hg1
  have HR1 := Lib.hid hr1
  clear hg1 hr1
  go_wp2_with fail
  refine (pick_any r A n c q1 4 w1 (by omega) (by omega) HR1.out).mono ?_
  rintro e w2 ⟨k, rfl, hk, hg2, hr2⟩
  have HG2 := Lib.hid (grown_trans HG1.out hg2)
  have HR2 := Lib.hid hr2
  clear hg2 hr2
  have hk4 : k ≤ 3 := by omega
  go_wp2_with fail
  go_loopw [6, 8] (fun bv iv wr => ∃ (j q : Nat) (sb : ByteArray), j ≤ k ∧ iv = .int .i64 j ∧ bv = .string sb ∧ sb.size ≤ 2 + 81 * j ∧ q ≤ p + 2 + 80 * j ∧ Hid (w.grownBy wr (some r)) ∧ Hid (Rd wr r A n c q)) (fun _ iv _ => k - (intOf iv).toNat)
  case atStart => exact ⟨0, q1 + 1, _, Nat.zero_le _, rfl, rfl, by rw [z2]; omega, by omega, HG2.out, HR2.out⟩
  case round =>
    obtain ⟨j, q, sb, hj, rfl, rfl, hsb, hq, hgr, hrr⟩ := hrel
    by_cases hjk : j < k
    · go_wp2_with fail
      refine (HI.out wr q hrr.out (by omega)).mono ?_
      rintro e wb ⟨s4, q4, rfl, hs4, hq4, hg4, hr4⟩
      have HGE := Lib.hid (grown_trans hgr.out hg4)
      have HRE := Lib.hid hr4
      clear hg4 hr4
      go_wp2_with fail
      go_roundw
      case rel => exact ⟨j + 1, q4, _, by omega, by go_num, rfl, by simp only [str_len, z32]; omega, by omega, HGE.out, HRE.out⟩
      case measure => simp [intOf]; omega
    · obtain rfl : j = k := by omega
      go_wp2_with fail
      go_ret
      exact ⟨_, q, rfl, by simp only [str_len, z10, z43, z42]; omega, by omega, hgr.out, hrr.out⟩

theorem sortRes_size (l : B) : (sortRes l).1.length ≤ 4000 := by
  unfold sortRes
  cases h : loose l with
  | none => simp
  | some t =>
    obtain ⟨h1, h2, h3, h4⟩ := loose_some l t h
    simp only [text_sort_len]
    omega

set_option maxHeartbeats 3200000 in
set_option maxRecDepth 100000 in
/-- The end of l91Term: the text sorted, or x. -/
theorem l91Term_any (hBag : BagSaid) (r : Nat) (A : Option Addr) (n c p : Nat) (w : World) (hR : Rd w r A n c p) (hp : p ≤ 500000) :
    Calls Tryz.prog 85 #[.pointer (some ⟨r, 0, none⟩)] w (DrawnPost w r A n c p 4000 4000) := by
  have HI : Hid (∀ W P (k : Nat), k ≤ 2 → Rd W r A n c P → P ≤ 510000 → Calls Tryz.prog 56 #[.pointer (some ⟨r, 0, none⟩), .int .i64 0, .int .i64 (1 + (k : Int))] W (DrawnPost W r A n c P 2240 2240)) :=
    fun W P k hk h1 h2 => looseSaid 3 r A n c P 0 (1 + (k : Int)) W h1 (by show P + 2240 ≤ _; omega) (by show 2240 ≤ 10000; omega) (by omega) (by omega) (by omega)
  have HX : Hid (∀ W P (l : Nat), l ≤ 10 → Rd W r A n c P → P ≤ 800000 → Calls Tryz.prog 116 #[.pointer (some ⟨r, 0, none⟩), .int .i64 l] W (DrawnPost W r A n c P 300 400)) := fun W P l hl h1 h2 => l91Redex_any r A n c P l W h1 h2 hl
  have HS : Hid (∀ W (s : ByteArray), s.size ≤ 5000 → Calls Tryz.prog 21 #[.string s] W fun e w' => e = .returned (.tuple #[st (sortRes s.data.toList).1, .bool (sortRes s.data.toList).2]) ∧ Below W.heap.size W w') := fun W s hs => specTermSort hBag s (by unfold maxLen; omega) W
  have HR := Lib.hid hR
  have z32 : (⟨#[32]⟩ : ByteArray).size = 1 := rfl
  have z41 : (⟨#[41]⟩ : ByteArray).size = 1 := rfl
  have z42 : (⟨#[41, 41]⟩ : ByteArray).size = 2 := rfl
  have z5 : (⟨#[40, 97, 112, 112, 32]⟩ : ByteArray).size = 5 := rfl
  have z6 : (⟨#[40, 108, 97, 109, 32]⟩ : ByteArray).size = 5 := rfl
  have z7 : (⟨#[32, 40, 109, 32, 120, 41, 41]⟩ : ByteArray).size = 7 := rfl
  have z10 : (⟨#[40, 97, 112, 112, 32, 120, 32, 40, 109, 32]⟩ : ByteArray).size = 10 := rfl
  clear hR
  go_enter Tryz.func85, Tryz.ntmps85
  go_wp2_with fail
  refine (pick_any r A n c p 3 w (by omega) (by omega) HR.out).mono ?_
  rintro e w1 ⟨k1, rfl, hk1, hg1, hr1⟩
  have HG1 := Lib.hid hg1
  have HR1 := Lib.hid hr1
  clear hg1 hr1
  go_wp2_with fail
  refine (HI.out w1 (p + 1) k1 (by omega) HR1.out (by omega)).mono ?_
  rintro e w2 ⟨s2, q2, rfl, hs2, hq2, hg2, hr2⟩
  have HG2 := Lib.hid (grown_trans HG1.out hg2)
  have HR2 := Lib.hid hr2
  clear hg2 hr2
  go_wp2_with fail
  refine (pick_any r A n c q2 3 w2 (by omega) (by omega) HR2.out).mono ?_
  rintro e w3 ⟨k3, rfl, hk3, hg3, hr3⟩
  have HG3 := Lib.hid (grown_trans HG2.out hg3)
  have HR3 := Lib.hid hr3
  clear hg3 hr3
  by_cases h3 : k3 = 0
  · have d3 : ((k3 : Int) == 0) = true := by simp; omega
    go_wp2_with fail
    refine (HX.out w3 (q2 + 1) 0 (by omega) HR3.out (by omega)).mono ?_
    rintro e y1 ⟨x1, g1, rfl, hx1, hg1, hgr1, hrr1⟩
    have HGX1 := Lib.hid (grown_trans HG3.out hgr1)
    have HRX1 := Lib.hid hrr1
    clear hgr1 hrr1
    go_wp2_with fail
    refine (HX.out y1 g1 1 (by omega) HRX1.out (by omega)).mono ?_
    rintro e y2 ⟨x2, g2, rfl, hx2, hg2, hgr2, hrr2⟩
    have HGX2 := Lib.hid (grown_trans HGX1.out hgr2)
    have HRX2 := Lib.hid hrr2
    clear hgr2 hrr2
    go_wp2_with fail
    refine (HX.out y2 g2 0 (by omega) HRX2.out (by omega)).mono ?_
    rintro e y3 ⟨x3, g3, rfl, hx3, hg3, hgr3, hrr3⟩
    have HGX3 := Lib.hid (grown_trans HGX2.out hgr3)
    have HRX3 := Lib.hid hrr3
    clear hgr3 hrr3
    go_wp2_with fail
    refine (HX.out y3 g3 0 (by omega) HRX3.out (by omega)).mono ?_
    rintro e y4 ⟨x4, g4, rfl, hx4, hg4, hgr4, hrr4⟩
    have HGX4 := Lib.hid (grown_trans HGX3.out hgr4)
    have HRX4 := Lib.hid hrr4
    clear hgr4 hrr4
    go_wp2_with fail
    refine (HX.out y4 g4 0 (by omega) HRX4.out (by omega)).mono ?_
    rintro e y5 ⟨x5, g5, rfl, hx5, hg5, hgr5, hrr5⟩
    have HGX5 := Lib.hid (grown_trans HGX4.out hgr5)
    have HRX5 := Lib.hid hrr5
    clear hgr5 hrr5
    go_wp2_with fail
    refine Calls.mono (of_lit r A n c g5 _ _ 1000 y5 HRX5.out (by omega) rfl rfl ?_) ?_
    · intro s hs
      simp [strs] at hs
      rcases hs with rfl | rfl | rfl | rfl
      · omega
      · simp only [str_len, z6, z41]; omega
      · simp only [str_len, z10, z32, z42]; omega
      · simp only [str_len, z5, z7]; omega
    rintro e w6 ⟨s6, q6, rfl, hs6, hq6, hg6, hr6⟩
    have HG6 := Lib.hid (grown_trans HGX5.out hg6)
    have HR6 := Lib.hid hr6
    clear hg6 hr6
    go_wp2_with fail
    refine (HS.out w6 s6 (by omega)).mono ?_
    rintro e wz ⟨rfl, hbz⟩
    have hsz := sortRes_size s6.data.toList
    generalize sortRes s6.data.toList = o at hsz ⊢
    obtain ⟨o1, o2⟩ := o
    have hsz : o1.length ≤ 4000 := hsz
    have HGZ := Lib.hid (grown_trans HG6.out (below_at hbz r))
    have HRZ := Lib.hid (HR6.out.grown hbz)
    clear hbz
    rw [st_eq]
    cases o2
    all_goals
      go_wp2_with fail
      go_ret
    · exact ⟨_, q6, rfl, by decide, by omega, HGZ.out, HRZ.out⟩
    · exact ⟨_, q6, rfl, by simpa [ByteArray.size] using hsz, by omega, HGZ.out, HRZ.out⟩
  · have d3 : ((k3 : Int) == 0) = false := by simp; omega
    go_wp2_with fail
    refine (HS.out w3 s2 (by omega)).mono ?_
    rintro e wz ⟨rfl, hbz⟩
    have hsz := sortRes_size s2.data.toList
    generalize sortRes s2.data.toList = o at hsz ⊢
    obtain ⟨o1, o2⟩ := o
    have hsz : o1.length ≤ 4000 := hsz
    have HGZ := Lib.hid (grown_trans HG3.out (below_at hbz r))
    have HRZ := Lib.hid (HR3.out.grown hbz)
    clear hbz
    rw [st_eq]
    cases o2
    all_goals
      go_wp2_with fail
      go_ret
    · exact ⟨_, (q2 + 1), rfl, by decide, by omega, HGZ.out, HRZ.out⟩
    · exact ⟨_, (q2 + 1), rfl, by simpa [ByteArray.size] using hsz, by omega, HGZ.out, HRZ.out⟩

set_option maxHeartbeats 1600000 in
set_option maxRecDepth 100000 in
theorem l91Odd_any (hBag : BagSaid) (r : Nat) (A : Option Addr) (n c p : Nat) (w : World) (hR : Rd w r A n c p) (hp : p ≤ 400000) :
    Calls Tryz.prog 49 #[.pointer (some ⟨r, 0, none⟩)] w (DrawnPost w r A n c p 4001 4000) := by
  have HT : Hid (∀ W P, Rd W r A n c P → P ≤ 500000 → Calls Tryz.prog 85 #[.pointer (some ⟨r, 0, none⟩)] W (DrawnPost W r A n c P 4000 4000)) := fun W P h1 h2 => l91Term_any hBag r A n c P W h1 h2
  have HR := Lib.hid hR
  clear hR
  go_enter Tryz.func49, Tryz.ntmps49
  go_wp2_with fail
  refine (pick_any r A n c p 16 w (by omega) (by omega) HR.out).mono ?_
  rintro e w1 ⟨k1, rfl, hk1, hg1, hr1⟩
  have HG1 := Lib.hid hg1
  have HR1 := Lib.hid hr1
  clear hg1 hr1
  by_cases h1 : k1 = 0
  · have d1 : ((k1 : Int) == 0) = true := by simp; omega
    go_wp2_with fail
    refine Calls.mono (of_lit r A n c (p + 1) _ _ 40 w1 HR1.out (by omega) rfl rfl (by decide)) ?_
    rintro e w2 ⟨s2, q2, rfl, hs2, hq2, hg2, hr2⟩
    have HG2 := Lib.hid (grown_trans HG1.out hg2)
    have HR2 := Lib.hid hr2
    clear hg2 hr2
    go_wp2_with fail
    go_ret
    exact ⟨s2, q2, rfl, by omega, by omega, HG2.out, HR2.out⟩
  · have d1 : ((k1 : Int) == 0) = false := by simp; omega
    go_wp2_with fail
    refine (HT.out w1 (p + 1) HR1.out (by omega)).mono ?_
    rintro e w2 ⟨s2, q2, rfl, hs2, hq2, hg2, hr2⟩
    have HG2 := Lib.hid (grown_trans HG1.out hg2)
    have HR2 := Lib.hid hr2
    clear hg2 hr2
    go_wp2_with fail
    go_ret
    exact ⟨s2, q2, rfl, by omega, by omega, HG2.out, HR2.out⟩

set_option maxHeartbeats 1600000 in
set_option maxRecDepth 100000 in
theorem l91Name_any (r : Nat) (A : Option Addr) (n c p : Nat) (w : World) (hR : Rd w r A n c p) (hp : p ≤ 800000) :
    Calls Tryz.prog 63 #[.pointer (some ⟨r, 0, none⟩)] w (DrawnPost w r A n c p 2 8) := by
  have HR := Lib.hid hR
  clear hR
  go_enter Tryz.func63, Tryz.ntmps63
  go_wp2_with fail
  refine (pick_any r A n c p 24 w (by omega) (by omega) HR.out).mono ?_
  rintro e w1 ⟨k1, rfl, hk1, hg1, hr1⟩
  have HG1 := Lib.hid hg1
  have HR1 := Lib.hid hr1
  clear hg1 hr1
  by_cases h1 : k1 = 0
  · have d1 : ((k1 : Int) == 0) = true := by simp; omega
    go_wp2_with fail
    refine Calls.mono (of_lit r A n c (p + 1) _ _ 8 w1 HR1.out (by omega) rfl rfl (by decide)) ?_
    rintro e w2 ⟨s2, q2, rfl, hs2, hq2, hg2, hr2⟩
    have HG2 := Lib.hid (grown_trans HG1.out hg2)
    have HR2 := Lib.hid hr2
    clear hg2 hr2
    go_wp2_with fail
    go_ret
    exact ⟨s2, q2, rfl, by omega, by omega, HG2.out, HR2.out⟩
  · have d1 : ((k1 : Int) == 0) = false := by simp; omega
    go_wp2_with fail
    refine Calls.mono (of_lit r A n c (p + 1) _ _ 8 w1 HR1.out (by omega) rfl rfl (by decide)) ?_
    rintro e w2 ⟨s2, q2, rfl, hs2, hq2, hg2, hr2⟩
    have HG2 := Lib.hid (grown_trans HG1.out hg2)
    have HR2 := Lib.hid hr2
    clear hg2 hr2
    go_wp2_with fail
    go_ret
    exact ⟨s2, q2, rfl, by omega, by omega, HG2.out, HR2.out⟩

end Go.Proofs.YtomaknmemhpghaaGreatDoor

/-! The draws of stage 1's laws. -/
namespace Go.Proofs.YtomaknmemhpghaaGreatDoor
open Go.RowKit Rt

/-- What a draw of a text of at most 4000 bytes does. -/
def DrawPost (w : World) (e : Ending) (w' : World) : Prop := ∃ a : B, e = .returned (.string ⟨a.toArray⟩) ∧ a.length ≤ 4000 ∧ Below w.heap.size w w'

/-- What a draw of two texts does. -/
def DrawPost2 (w : World) (e : Ending) (w' : World) : Prop := ∃ a b : B, e = .returned (.tuple #[.string ⟨a.toArray⟩, .string ⟨b.toArray⟩]) ∧ a.length ≤ 4000 ∧ b.length ≤ 4000 ∧ Below w.heap.size w w'

theorem of_bytes (s : ByteArray) : s = ⟨s.data.toList.toArray⟩ := by simp
theorem draw_mk {w w' : World} {s : ByteArray} (hs : s.size ≤ 4000) (hb : Below w.heap.size w w') : DrawPost w (.returned (.string s)) w' :=
  ⟨s.data.toList, by rw [← of_bytes], by rw [Array.length_toList]; exact hs, hb⟩
theorem draw_mk2 {w w' : World} {s t : ByteArray} (hs : s.size ≤ 4000) (ht : t.size ≤ 4000) (hb : Below w.heap.size w w') : DrawPost2 w (.returned (.tuple #[.string s, .string t])) w' :=
  ⟨s.data.toList, t.data.toList, by rw [← of_bytes, ← of_bytes], by rw [Array.length_toList]; exact hs, by rw [Array.length_toList]; exact ht, hb⟩

theorem below_draw {w w1 w2 : World} (h : Below w.heap.size w w1) (hg : w1.grownBy w2 (some w.heap.size)) : Below w.heap.size w w2 := below_pool h hg

theorem bindRes_size (l a : B) : (bindRes l a).1.length ≤ 4000 := by
  unfold bindRes
  cases h : termOf l with
  | none => simp
  | some t =>
    obtain ⟨h1, h2⟩ := termOf_ok l t h
    simp only
    split
    · rename_i hc
      obtain ⟨z1, z2⟩ := swp_ok (lBind a) 0 1 (lBind_ok a 0) t 0 (by omega) h1
      have z2' : ok 0 (.lam (swp (lBind a) 0 t)) = true := by rw [ok]; exact z2
      have z3 := text_size 0 _ z2'
      rw [Rt.size, z1] at z3
      simp only [text_sort_len]
      omega
    · simp

set_option maxHeartbeats 800000 in
set_option maxRecDepth 100000 in
theorem drawTermValid_any (hBag : BagSaid) (A : Option Addr) (n c : Nat) (w : World) (hn : n ≤ maxLen) (hnc : n ≤ c) (hB : Bytes w A n) :
    Calls Tryz.prog 15 #[.slice A n c] w (DrawPost w) := by
  have HO := Lib.hid (l6Open_any A n c w hn hnc hB)
  clear hB
  go_enter Tryz.func15, Tryz.ntmps15
  go_wp2_with fail
  refine HO.out.mono ?_
  rintro e w1 ⟨rfl, hb1, m, hr1⟩
  have HB1 := Lib.hid hb1
  have HR1 := Lib.hid hr1
  clear hb1 hr1
  go_wp2_with fail
  refine (l91Odd_any hBag w.heap.size A m c 0 w1 HR1.out (by omega)).mono ?_
  rintro e w2 ⟨s, q, rfl, hs, -, hg, -⟩
  have HB2 := Lib.hid (below_draw HB1.out hg)
  clear hg
  go_wp2_with fail
  go_ret
  exact draw_mk hs HB2.out

set_option maxHeartbeats 800000 in
set_option maxRecDepth 100000 in
theorem drawTermSize_any (hBag : BagSaid) (A : Option Addr) (n c : Nat) (w : World) (hn : n ≤ maxLen) (hnc : n ≤ c) (hB : Bytes w A n) :
    Calls Tryz.prog 22 #[.slice A n c] w (DrawPost w) := by
  have HO := Lib.hid (l6Open_any A n c w hn hnc hB)
  clear hB
  go_enter Tryz.func22, Tryz.ntmps22
  go_wp2_with fail
  refine HO.out.mono ?_
  rintro e w1 ⟨rfl, hb1, m, hr1⟩
  have HB1 := Lib.hid hb1
  have HR1 := Lib.hid hr1
  clear hb1 hr1
  go_wp2_with fail
  refine (l91Odd_any hBag w.heap.size A m c 0 w1 HR1.out (by omega)).mono ?_
  rintro e w2 ⟨s, q, rfl, hs, -, hg, -⟩
  have HB2 := Lib.hid (below_draw HB1.out hg)
  clear hg
  go_wp2_with fail
  go_ret
  exact draw_mk hs HB2.out

set_option maxHeartbeats 800000 in
set_option maxRecDepth 100000 in
theorem drawTermSort_any (hBag : BagSaid) (A : Option Addr) (n c : Nat) (w : World) (hn : n ≤ maxLen) (hnc : n ≤ c) (hB : Bytes w A n) :
    Calls Tryz.prog 20 #[.slice A n c] w (DrawPost w) := by
  have HO := Lib.hid (l6Open_any A n c w hn hnc hB)
  have HI : Hid (∀ r m W P, Rd W r A m c P → P ≤ 510000 → Calls Tryz.prog 56 #[.pointer (some ⟨r, 0, none⟩), .int .i64 0, .int .i64 3] W (DrawnPost W r A m c P 2240 2240)) :=
    fun r m W P h1 h2 => looseSaid 3 r A m c P 0 3 W h1 (by show P + 2240 ≤ _; omega) (by show 2240 ≤ 10000; omega) (by omega) (by omega) (by omega)
  clear hB
  go_enter Tryz.func20, Tryz.ntmps20
  go_wp2_with fail
  refine HO.out.mono ?_
  rintro e w1 ⟨rfl, hb1, m, hr1⟩
  have HB1 := Lib.hid hb1
  have HR1 := Lib.hid hr1
  clear hb1 hr1
  go_wp2_with fail
  refine (pick_any w.heap.size A m c 0 12 w1 (by omega) (by omega) HR1.out).mono ?_
  rintro e w2 ⟨k, rfl, hk, hg2, hr2⟩
  have HB2 := Lib.hid (below_draw HB1.out hg2)
  have HR2 := Lib.hid hr2
  clear hg2 hr2
  by_cases h0 : k = 0
  · have d1 : ((k : Int) == 0) = true := by simp; omega
    go_wp2_with fail
    refine (l91Odd_any hBag w.heap.size A m c (0 + 1) w2 HR2.out (by omega)).mono ?_
    rintro e w3 ⟨s, q, rfl, hs, -, hg, -⟩
    have HB3 := Lib.hid (below_draw HB2.out hg)
    clear hg
    go_wp2_with fail
    go_ret
    exact draw_mk hs HB3.out
  · have d1 : ((k : Int) == 0) = false := by simp; omega
    go_wp2_with fail
    refine (HI.out w.heap.size m w2 (0 + 1) HR2.out (by omega)).mono ?_
    rintro e w3 ⟨s, q, rfl, hs, -, hg, -⟩
    have HB3 := Lib.hid (below_draw HB2.out hg)
    clear hg
    go_wp2_with fail
    go_ret
    exact draw_mk (by omega) HB3.out

set_option maxHeartbeats 800000 in
set_option maxRecDepth 100000 in
theorem drawTermBind_any (hBag : BagSaid) (A : Option Addr) (n c : Nat) (w : World) (hn : n ≤ maxLen) (hnc : n ≤ c) (hB : Bytes w A n) :
    Calls Tryz.prog 25 #[.slice A n c] w (DrawPost2 w) := by
  have HO := Lib.hid (l6Open_any A n c w hn hnc hB)
  clear hB
  go_enter Tryz.func25, Tryz.ntmps25
  go_wp2_with fail
  refine HO.out.mono ?_
  rintro e w1 ⟨rfl, hb1, m, hr1⟩
  have HB1 := Lib.hid hb1
  have HR1 := Lib.hid hr1
  clear hb1 hr1
  go_wp2_with fail
  refine (l91Odd_any hBag w.heap.size A m c 0 w1 HR1.out (by omega)).mono ?_
  rintro e w2 ⟨s, q, rfl, hs, hq, hg, hr2⟩
  have HB2 := Lib.hid (below_draw HB1.out hg)
  have HR2 := Lib.hid hr2
  clear hg hr2
  go_wp2_with fail
  refine (l91Name_any w.heap.size A m c q w2 HR2.out (by omega)).mono ?_
  rintro e w3 ⟨t, q3, rfl, ht, -, hg, -⟩
  have HB3 := Lib.hid (below_draw HB2.out hg)
  clear hg
  go_wp2_with fail
  go_ret2
  exact draw_mk2 hs (by omega) HB3.out

end Go.Proofs.YtomaknmemhpghaaGreatDoor

/-! The draws of more laws of stage 1. -/
namespace Go.Proofs.YtomaknmemhpghaaGreatDoor
open Go.RowKit Rt

/-- What a draw of three texts does. -/
def DrawPost3 (w : World) (e : Ending) (w' : World) : Prop := ∃ a b c : B, e = .returned (.tuple #[.string ⟨a.toArray⟩, .string ⟨b.toArray⟩, .string ⟨c.toArray⟩]) ∧ a.length ≤ 4000 ∧ b.length ≤ 4000 ∧ c.length ≤ 4000 ∧ Below w.heap.size w w'

theorem draw_mk3 {w w' : World} {s t u : ByteArray} (hs : s.size ≤ 4000) (ht : t.size ≤ 4000) (hu : u.size ≤ 4000) (hb : Below w.heap.size w w') : DrawPost3 w (.returned (.tuple #[.string s, .string t, .string u])) w' :=
  ⟨s.data.toList, t.data.toList, u.data.toList, by rw [← of_bytes, ← of_bytes, ← of_bytes], by rw [Array.length_toList]; exact hs, by rw [Array.length_toList]; exact ht, by rw [Array.length_toList]; exact hu, hb⟩

end Go.Proofs.YtomaknmemhpghaaGreatDoor
