/- The draws of stage 1's laws. -/
import Derived.Test.YtgekmihjhphloaaGreatDoorDrE
import Derived.Test.YtgekmihjhphloaaGreatDoorSpE
import Derived.Test.YtgekmihjhphloaaGreatDoorOpA
namespace Go.Proofs.YtgekmihjhphloaaGreatDoor
open Go.RowKit Rt

/-- What a draw of a text of at most 4000 bytes does. -/
def DrawPost (w : World) (e : Ending) (w' : World) : Prop := ∃ a : B, e = .returned (.string ⟨a.toArray⟩) ∧ a.length ≤ 4000 ∧ Below w.heap.size w w'

/-- What a draw of two texts does. -/
def DrawPost2 (w : World) (e : Ending) (w' : World) : Prop := ∃ a b : B, e = .returned (.tuple #[.string ⟨a.toArray⟩, .string ⟨b.toArray⟩]) ∧ a.length ≤ 4000 ∧ b.length ≤ 4000 ∧ Below w.heap.size w w'

theorem of_bytes (s : ByteArray) : s = ⟨s.data.toList.toArray⟩ := by simp
theorem draw_mk {w w' : World} {s : ByteArray} (hs : s.size ≤ 4000) (hb : Below w.heap.size w w') : DrawPost w (.returned (.string s)) w' :=
  ⟨s.data.toList, by rw [← of_bytes], by rw [Array.length_toList]; exact hs, hb⟩
theorem draw_mk2 {w w' : World} {s t : ByteArray} (hs : s.size ≤ 4000) (ht : t.size ≤ 4000) (hb : Below w.heap.size w w') : DrawPost2 w (.returned (.tuple #[.string s, .string t])) w' :=
  ⟨s.data.toList, t.data.toList, by rw [← of_bytes, ← of_bytes], by rw [Array.length_toList]; exact hs, by rw [Array.length_toList]; exact ht, hb⟩

theorem below_draw {w w1 w2 : World} (h : Below w.heap.size w w1) (hg : w1.grownBy w2 (some w.heap.size)) : Below w.heap.size w w2 := below_pool h hg

theorem bindRes_size (l a : B) : (bindRes l a).1.length ≤ 4000 := by
  unfold bindRes
  cases h : termOf l with
  | none => simp
  | some t =>
    obtain ⟨h1, h2⟩ := termOf_ok l t h
    simp only
    split
    · rename_i hc
      obtain ⟨z1, z2⟩ := swp_ok (lBind a) 0 1 (lBind_ok a 0) t 0 (by omega) h1
      have z2' : ok 0 (.lam (swp (lBind a) 0 t)) = true := by rw [ok]; exact z2
      have z3 := text_size 0 _ z2'
      rw [Rt.size, z1] at z3
      simp only [text_sort_len]
      omega
    · simp

set_option maxHeartbeats 800000 in
set_option maxRecDepth 100000 in
theorem drawTermValid_any (hBag : BagSaid) (A : Option Addr) (n c : Nat) (w : World) (hn : n ≤ maxLen) (hnc : n ≤ c) (hB : Bytes w A n) :
    Calls Tryz.prog 13 #[.slice A n c] w (DrawPost w) := by
  have HO := Lib.hid (l6Open_any A n c w hn hnc hB)
  clear hB
  go_enter Tryz.func13, Tryz.ntmps13
  go_wp2_with fail
  refine HO.out.mono ?_
  rintro e w1 ⟨rfl, hb1, m, hr1⟩
  have HB1 := Lib.hid hb1
  have HR1 := Lib.hid hr1
  clear hb1 hr1
  go_wp2_with fail
  refine (l91Odd_any hBag w.heap.size A m c 0 w1 HR1.out (by omega)).mono ?_
  rintro e w2 ⟨s, q, rfl, hs, -, hg, -⟩
  have HB2 := Lib.hid (below_draw HB1.out hg)
  clear hg
  go_wp2_with fail
  go_ret
  exact draw_mk hs HB2.out

set_option maxHeartbeats 800000 in
set_option maxRecDepth 100000 in
theorem drawTermSize_any (hBag : BagSaid) (A : Option Addr) (n c : Nat) (w : World) (hn : n ≤ maxLen) (hnc : n ≤ c) (hB : Bytes w A n) :
    Calls Tryz.prog 20 #[.slice A n c] w (DrawPost w) := by
  have HO := Lib.hid (l6Open_any A n c w hn hnc hB)
  clear hB
  go_enter Tryz.func20, Tryz.ntmps20
  go_wp2_with fail
  refine HO.out.mono ?_
  rintro e w1 ⟨rfl, hb1, m, hr1⟩
  have HB1 := Lib.hid hb1
  have HR1 := Lib.hid hr1
  clear hb1 hr1
  go_wp2_with fail
  refine (l91Odd_any hBag w.heap.size A m c 0 w1 HR1.out (by omega)).mono ?_
  rintro e w2 ⟨s, q, rfl, hs, -, hg, -⟩
  have HB2 := Lib.hid (below_draw HB1.out hg)
  clear hg
  go_wp2_with fail
  go_ret
  exact draw_mk hs HB2.out

set_option maxHeartbeats 800000 in
set_option maxRecDepth 100000 in
theorem drawTermSort_any (hBag : BagSaid) (A : Option Addr) (n c : Nat) (w : World) (hn : n ≤ maxLen) (hnc : n ≤ c) (hB : Bytes w A n) :
    Calls Tryz.prog 18 #[.slice A n c] w (DrawPost w) := by
  have HO := Lib.hid (l6Open_any A n c w hn hnc hB)
  have HI : Hid (∀ r m W P, Rd W r A m c P → P ≤ 510000 → Calls Tryz.prog 50 #[.pointer (some ⟨r, 0, none⟩), .int .i64 0, .int .i64 3] W (DrawnPost W r A m c P 2240 2240)) :=
    fun r m W P h1 h2 => looseSaid 3 r A m c P 0 3 W h1 (by show P + 2240 ≤ _; omega) (by show 2240 ≤ 10000; omega) (by omega) (by omega) (by omega)
  clear hB
  go_enter Tryz.func18, Tryz.ntmps18
  go_wp2_with fail
  refine HO.out.mono ?_
  rintro e w1 ⟨rfl, hb1, m, hr1⟩
  have HB1 := Lib.hid hb1
  have HR1 := Lib.hid hr1
  clear hb1 hr1
  go_wp2_with fail
  refine (pick_any w.heap.size A m c 0 12 w1 (by omega) (by omega) HR1.out).mono ?_
  rintro e w2 ⟨k, rfl, hk, hg2, hr2⟩
  have HB2 := Lib.hid (below_draw HB1.out hg2)
  have HR2 := Lib.hid hr2
  clear hg2 hr2
  by_cases h0 : k = 0
  · have d1 : ((k : Int) == 0) = true := by simp; omega
    go_wp2_with fail
    refine (l91Odd_any hBag w.heap.size A m c (0 + 1) w2 HR2.out (by omega)).mono ?_
    rintro e w3 ⟨s, q, rfl, hs, -, hg, -⟩
    have HB3 := Lib.hid (below_draw HB2.out hg)
    clear hg
    go_wp2_with fail
    go_ret
    exact draw_mk hs HB3.out
  · have d1 : ((k : Int) == 0) = false := by simp; omega
    go_wp2_with fail
    refine (HI.out w.heap.size m w2 (0 + 1) HR2.out (by omega)).mono ?_
    rintro e w3 ⟨s, q, rfl, hs, -, hg, -⟩
    have HB3 := Lib.hid (below_draw HB2.out hg)
    clear hg
    go_wp2_with fail
    go_ret
    exact draw_mk (by omega) HB3.out

set_option maxHeartbeats 800000 in
set_option maxRecDepth 100000 in
theorem drawTermBind_any (hBag : BagSaid) (A : Option Addr) (n c : Nat) (w : World) (hn : n ≤ maxLen) (hnc : n ≤ c) (hB : Bytes w A n) :
    Calls Tryz.prog 23 #[.slice A n c] w (DrawPost2 w) := by
  have HO := Lib.hid (l6Open_any A n c w hn hnc hB)
  clear hB
  go_enter Tryz.func23, Tryz.ntmps23
  go_wp2_with fail
  refine HO.out.mono ?_
  rintro e w1 ⟨rfl, hb1, m, hr1⟩
  have HB1 := Lib.hid hb1
  have HR1 := Lib.hid hr1
  clear hb1 hr1
  go_wp2_with fail
  refine (l91Odd_any hBag w.heap.size A m c 0 w1 HR1.out (by omega)).mono ?_
  rintro e w2 ⟨s, q, rfl, hs, hq, hg, hr2⟩
  have HB2 := Lib.hid (below_draw HB1.out hg)
  have HR2 := Lib.hid hr2
  clear hg hr2
  go_wp2_with fail
  refine (l91Name_any w.heap.size A m c q w2 HR2.out (by omega)).mono ?_
  rintro e w3 ⟨t, q3, rfl, ht, -, hg, -⟩
  have HB3 := Lib.hid (below_draw HB2.out hg)
  clear hg
  go_wp2_with fail
  go_ret2
  exact draw_mk2 hs (by omega) HB3.out

set_option maxHeartbeats 800000 in
set_option maxRecDepth 100000 in
theorem drawTermOpen_any (hBag : BagSaid) (A : Option Addr) (n c : Nat) (w : World) (hn : n ≤ maxLen) (hnc : n ≤ c) (hB : Bytes w A n) :
    Calls Tryz.prog 27 #[.slice A n c] w (DrawPost2 w) := by
  have HO := Lib.hid (l6Open_any A n c w hn hnc hB)
  have HBD : Hid (∀ W (s : ByteArray), s.size ≤ 4000 → Calls Tryz.prog 25 #[.string s, .string ⟨#[120]⟩] W fun e w' => e = .returned (.tuple #[st (bindRes s.data.toList [120]).1, .bool (bindRes s.data.toList [120]).2]) ∧ Below W.heap.size W w') :=
    fun W s hs => specTermBind hBag s [120] (by unfold maxLen; omega) (by decide) W
  clear hB
  go_enter Tryz.func27, Tryz.ntmps27
  go_wp2_with fail
  refine HO.out.mono ?_
  rintro e w1 ⟨rfl, hb1, m, hr1⟩
  have HB1 := Lib.hid hb1
  have HR1 := Lib.hid hr1
  clear hb1 hr1
  go_wp2_with fail
  refine (l91Odd_any hBag w.heap.size A m c 0 w1 HR1.out (by omega)).mono ?_
  rintro e w2 ⟨s, q, rfl, hs, hq, hg, hr2⟩
  have HB2 := Lib.hid (below_draw HB1.out hg)
  have HR2 := Lib.hid hr2
  clear hg hr2
  go_wp2_with fail
  refine (HBD.out w2 s hs).mono ?_
  rintro e w3 ⟨rfl, hb3⟩
  have hsz := bindRes_size s.data.toList [120]
  generalize bindRes s.data.toList [120] = o at hsz ⊢
  obtain ⟨o1, o2⟩ := o
  have hsz : o1.length ≤ 4000 := hsz
  have HB3 := Lib.hid (HB2.out.trans (hb3.mono HB2.out.size))
  have HR3 := Lib.hid (HR2.out.grown hb3)
  clear hb3
  rw [st_eq]
  cases o2
  · go_wp2_with fail
    refine (l91Name_any w.heap.size A m c q w3 HR3.out (by omega)).mono ?_
    rintro e w4 ⟨t, q3, rfl, ht, -, hg, -⟩
    have HB4 := Lib.hid (below_draw HB3.out hg)
    clear hg
    go_wp2_with fail
    go_ret2
    exact draw_mk2 hs (by omega) HB4.out
  · go_wp2_with fail
    refine (pick_any w.heap.size A m c q 2 w3 (by omega) (by omega) HR3.out).mono ?_
    rintro e w4 ⟨k, rfl, hk, hg4, hr4⟩
    have HB4 := Lib.hid (below_draw HB3.out hg4)
    have HR4 := Lib.hid hr4
    clear hg4 hr4
    by_cases h0 : k = 0
    · have d1 : ((k : Int) == 0) = true := by simp; omega
      go_wp2_with fail
      refine Calls.mono (of_lit w.heap.size A m c (q + 1) _ _ 8 w4 HR4.out (by omega) rfl rfl (by decide)) ?_
      rintro e w5 ⟨t, q3, rfl, ht, -, hg, -⟩
      have HB5 := Lib.hid (below_draw HB4.out hg)
      clear hg
      go_wp2_with fail
      go_ret2
      exact draw_mk2 (by simpa [ByteArray.size] using hsz) (by omega) HB5.out
    · have d1 : ((k : Int) == 0) = false := by simp; omega
      go_wp2_with fail
      refine (l91Name_any w.heap.size A m c (q + 1) w4 HR4.out (by omega)).mono ?_
      rintro e w5 ⟨t, q3, rfl, ht, -, hg, -⟩
      have HB5 := Lib.hid (below_draw HB4.out hg)
      clear hg
      go_wp2_with fail
      go_ret2
      exact draw_mk2 hs (by omega) HB5.out

end Go.Proofs.YtgekmihjhphloaaGreatDoor
