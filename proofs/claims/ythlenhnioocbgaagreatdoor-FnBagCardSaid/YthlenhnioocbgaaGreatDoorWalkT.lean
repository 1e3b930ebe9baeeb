/- The walk of the law FnBag. -/
import Derived.Test.YthlenhnioocbgaaGreatDoorDrI
import Derived.Test.YthlenhnioocbgaaGreatDoorFnA
import Derived.Test.YthlenhnioocbgaaGreatDoorBsD
import Derived.Test.YthlenhnioocbgaaGreatDoorKdC
import Derived.Test.YthlenhnioocbgaaGreatDoorSpecK
namespace Go.Proofs.YthlenhnioocbgaaGreatDoor
open Go.RowKit Rt Go.Lib

theorem implKidsB (a : B) (h : a.length ≤ 4000) (W : World) : Calls Tryz.prog 27 #[.string ⟨a.toArray⟩] W (KidsPost W (kidsRes a)) :=
  implTermKids ⟨a.toArray⟩ (by simp [ByteArray.size, maxLen]; omega) W

set_option maxHeartbeats 3200000 in
set_option maxRecDepth 100000 in
theorem walkFnBag (A : Option Addr) (n c : Nat) (w : World) (hn : n ≤ maxLen) (hnc : n ≤ c) (hB : Bytes w A n) :
    Calls Tryz.prog 7 #[.slice A n c] w fun e w' => e = .returned (.bool true) ∧ Below w.heap.size w w' := by
  have HD := Lib.hid (drawBagSort_any l1Bag_any A n c w hn hnc hB)
  unfold maxLen at hn
  clear hB
  by_cases h1 : n ≤ 1048576
  · have d0 : decide ((n : Int) > 1048576) = false := by simp; omega
    go_enter Tryz.func7, Tryz.ntmps7
    go_wp2_with fail
    refine HD.out.mono ?_
    rintro e w1 ⟨g, cc, Bb, l, rfl, hll, hls, hb1, hBb, hown1⟩
    have HB1 := Lib.hid hb1
    have HO1 := Lib.hid hown1
    have HLS := Lib.hid hls
    clear hb1 hown1 hls
    obtain ⟨i0, hi0, hz0, hz1, hz2⟩ := info_parts text_info
    have hbl := bys_len l
    have HSZ : Hid (∀ s ∈ bys l, s.size ≤ maxLen) := fun s hs => by
      obtain ⟨x, hx, rfl⟩ := List.mem_map.1 hs
      have := HLS.out x hx
      simp [ByteArray.size, maxLen]; omega
    have HI : Hid (∀ W, OwnT W Bb g cc l → Calls Tryz.prog 29 #[.slice (some ⟨g, 0, none⟩) l.length cc] W fun e w' => e = .returned (.tuple #[st (bagRes (bys l)).1, .bool (bagRes (bys l)).2]) ∧ Below W.heap.size W w') := fun W h => by
      have h2 := implBagSort (some ⟨g, 0, none⟩) cc (bys l) W (by omega) HSZ.out (own_texts h)
      rw [hbl] at h2
      exact h2
    have HS : Hid (∀ W, OwnT W Bb g cc l → Calls Tryz.prog 31 #[.slice (some ⟨g, 0, none⟩) l.length cc] W fun e w' => e = .returned (.tuple #[st (bagRes (bys l)).1, .bool (bagRes (bys l)).2]) ∧ Below W.heap.size W w') := fun W h => by
      have h2 := specBagSort l1Bag_any (some ⟨g, 0, none⟩) cc (bys l) W (by omega) HSZ.out (own_texts h)
      rw [hbl] at h2
      exact h2
    obtain ⟨r, hr⟩ : ∃ r, r = bagRes (bys l) := ⟨_, rfl⟩
    rw [← hr] at HI HS
    obtain ⟨o, v⟩ := r
    have HI1 : Hid (∀ W, OwnT W Bb g cc l → Calls Tryz.prog 29 #[.slice (some ⟨g, 0, none⟩) l.length cc] W fun e w' => e = .returned (.tuple #[.string ⟨o.toArray⟩, .bool v]) ∧ Below W.heap.size W w') := HI.out
    have HS1 : Hid (∀ W, OwnT W Bb g cc l → Calls Tryz.prog 31 #[.slice (some ⟨g, 0, none⟩) l.length cc] W fun e w' => e = .returned (.tuple #[.string ⟨o.toArray⟩, .bool v]) ∧ Below W.heap.size W w') := HS.out
    clear HI HS
    have hq1 : (o == o) = true := by simp
    have hq2 : (o != o) = false := by simp
    have hw1 := HB1.out.size
    cases v
    · clear hr
      go_wp2_with fail
      refine (HI1.out w1 HO1.out).mono ?_
      rintro e w2 ⟨rfl, hb2⟩
      have HB2 := Lib.hid (HB1.out.trans (hb2.mono HB1.out.size))
      have HO2 := Lib.hid (OwnT.go HO1.out hb2)
      clear hb2
      go_wp2_with fail
      refine (HS1.out w2 HO2.out).mono ?_
      rintro e w3 ⟨rfl, hb3⟩
      have HB3 := Lib.hid (HB2.out.trans (hb3.mono HB2.out.size))
      have HO3 := Lib.hid (OwnT.go HO2.out hb3)
      clear hb3
      go_wp2_with fail
      go_ret
      exact ⟨rfl, HB3.out⟩
    · obtain ⟨t1, t2, ks, t3, t4⟩ := bag_turn (bys l) o hr.symm
      rw [bys_rev] at t1
      have hrl : l.reverse.length = l.length := List.length_reverse
      have HT : Hid (∀ W (Bb' g' c' : Nat), OwnT W Bb' g' c' l.reverse → Calls Tryz.prog 29 #[.slice (some ⟨g', 0, none⟩) l.length c'] W fun e w' => e = .returned (.tuple #[.string ⟨o.toArray⟩, .bool true]) ∧ Below W.heap.size W w') := fun W Bb' g' c' h => by
        have h2 := implBagSort (some ⟨g', 0, none⟩) c' (bys l.reverse) W (by rw [bys_len, hrl]; omega) (fun s hs => HSZ.out s (by
          obtain ⟨x, hx, rfl⟩ := List.mem_map.1 hs
          exact List.mem_map.2 ⟨x, List.mem_reverse.1 hx, rfl⟩)) (own_texts h)
        rw [bys_len, hrl, t1, st_eq] at h2
        exact h2
      have HK : Hid (∀ W, Calls Tryz.prog 27 #[.string ((⟨#[40, 97, 112, 112, 32, 119, 32]⟩ : ByteArray) ++ ⟨o.toArray⟩ ++ ⟨#[41]⟩)] W fun e w' => Below W.heap.size W w' ∧ ∃ A c, e = .returned (.tuple #[.slice A (l.length + 2) c, .bool true])) := fun W => by
        have e0 : (⟨#[40, 97, 112, 112, 32, 119, 32]⟩ : ByteArray) ++ ⟨o.toArray⟩ ++ ⟨#[41]⟩ = ⟨([40, 97, 112, 112, 32, 119, 32] ++ o ++ [41]).toArray⟩ := bytes_three _ _ _
        rw [e0]
        have h2 := implKidsB ([40, 97, 112, 112, 32, 119, 32] ++ o ++ [41]) (by simp; omega) W
        rw [t3] at h2
        refine h2.mono ?_
        rintro e w' ⟨hb, A', c', rfl, -⟩
        refine ⟨hb, A', c', ?_⟩
        rw [show (ks, true).1.length = l.length + 2 from by show ks.length = _; rw [t4, hbl]]
      have HRV : Hid (∀ (j : Nat) (x : B), j < l.length → l[l.length - 1 - j]? = some x → l.reverse.take (j + 1) = l.reverse.take j ++ [x]) := fun j x hj hx => by
        rw [List.take_add_one, List.getElem?_reverse hj, hx]; rfl
      have HRL : Hid (l.reverse.take l.length = l.reverse) := by show _ = _; rw [← hrl, List.take_length]
      have z7 : (⟨#[40, 97, 112, 112, 32, 119, 32]⟩ : ByteArray).size = 7 := rfl
      have z41 : (⟨#[41]⟩ : ByteArray).size = 1 := rfl
      have zo : (⟨o.toArray⟩ : ByteArray).size = o.length := by simp [ByteArray.size]
      clear hr t1 t3 t4 hrl
      go_wp2_with fail
      refine (HI1.out w1 HO1.out).mono ?_
      rintro e w2 ⟨rfl, hb2⟩
      have HB2 := Lib.hid (HB1.out.trans (hb2.mono HB1.out.size))
      have HO2 := Lib.hid (OwnT.go HO1.out hb2)
      clear hb2
      go_wp2_with fail
      refine (HS1.out w2 HO2.out).mono ?_
      rintro e w3 ⟨rfl, hb3⟩
      have HB3 := Lib.hid (HB2.out.trans (hb3.mono HB2.out.size))
      have HO3 := Lib.hid (OwnT.go HO2.out hb3)
      clear hb3
      obtain ⟨W4, hW4⟩ : ∃ W4, W4 = w3.alloc (.cells #[] 9) := ⟨_, rfl⟩
      have hb4 : Below w3.heap.size w3 W4 := by rw [hW4]; exact (Below.refl _ _).alloc (Nat.le_refl _) _
      have HB4 := Lib.hid (HB3.out.trans (hb4.mono HB3.out.size))
      have HO4 := Lib.hid (OwnT.go HO3.out hb4)
      have HN4 : Hid (OwnT W4 w3.heap.size w3.heap.size 0 []) := by
        show OwnT _ _ _ _ _
        rw [hW4]
        exact own_new w3 9 #[] 0 1 w3.heap.size (Nat.le_refl _) rfl (by decide)
      have hg3 : g < w3.heap.size := (own_block_lt HO3.out g rfl).2
      have hw3 := HB3.out.size
      clear hb4
      go_wp2_with fail
      rw [← hW4]
      clear hW4
      go_loopw [8, 9] (fun tv iv wr => ∃ (j g' c' : Nat), j ≤ l.length ∧ iv = .int .i64 ((l.length : Int) - 1 - (j : Int)) ∧ tv = .slice (some ⟨g', 0, none⟩) j c' ∧ Hid (wr.ownsRow w3.heap.size 9 1 (.slice (some ⟨g', 0, none⟩) j c') j (sv_ (l.reverse.take j))) ∧ Hid (OwnT wr Bb g cc l) ∧ Hid (Below w.heap.size w wr)) (fun _ iv _ => (intOf iv + 1).toNat)
      case atStart => exact ⟨0, w3.heap.size, 0, Nat.zero_le _, by simp, rfl, HN4.out, HO4.out, HB4.out⟩
      case round =>
        obtain ⟨j, g', c', hj, rfl, rfl, hown, hlst, hbel⟩ := hrel
        have hgg := own_block_lt hown.out g' rfl
        by_cases hlt : j < l.length
        · obtain ⟨x, hx⟩ : ∃ x, l[l.length - 1 - j]? = some x := ⟨_, List.getElem?_eq_getElem (by omega)⟩
          have e0 := hlst.out.at (l.length - 1 - j) x hx
          have HRX := Lib.hid (HRV.out j x hlt hx)
          obtain ⟨m, hm⟩ : ∃ m : Nat, m = l.length - 1 - j := ⟨_, rfl⟩
          have hmi : (l.length : Int) - 1 - (j : Int) = (m : Int) := by omega
          have hml : m < l.length := by omega
          rw [← hm] at e0
          have d1 : decide ((m : Int) ≥ 0) = true := by simp
          rw [hmi]
          have HM := Lib.hid hm
          clear hx hm hmi
          go_wp2_with (at_builtin; refine wpList_append_own_at _ rfl _ _ 28 rfl w3.heap.size 9 i0 (.string ⟨#[]⟩) 1 16 Tryz.underlying28 hi0 hz0 hz1 hz2 rfl (Nat.succ_pos 0) (.slice (some ⟨g', 0, none⟩) j c') j (sv_ (l.reverse.take j)) rfl (hown.out.alloc _) ⟨wr.heap.size, 0, none⟩ 1 1 [.string ⟨x.toArray⟩] rfl rfl (cell_one_new _ _ _) ?_ ?_ ?_ ?_ ?_)
          · intro u hu
            simp at hu; subst hu; rfl
          · unfold maxLen; omega
          · omega
          · simp; omega
          · intro v' w5 hown5 hgrow5 _ hat5
            obtain ⟨A5, c5, rfl⟩ := own_shape hown5
            obtain ⟨g5, rfl, -⟩ := own_cells hown5 (Nat.succ_pos _)
            have hal : Below wr.heap.size wr (wr.alloc (.cells #[.string ⟨x.toArray⟩] 9)) := (Below.refl _ _).alloc (Nat.le_refl _) _
            have HB5 := Lib.hid (Below.grown (hbel.out.trans (hal.mono hbel.out.size)) hgrow5 (by have := hbel.out.size; simp; omega) (by intro q hq; simp [Value.ownBlock] at hq; omega))
            have HL5 : Hid (OwnT w5 Bb g cc l) := World.ownsRow.kept (OwnT.go hlst.out hal) hgrow5 (.inr (by simp [Value.ownBlock]; omega))
            have HN5 : Hid (w5.ownsRow w3.heap.size 9 1 (.slice (some ⟨g5, 0, none⟩) (j + 1) c5) (j + 1) (sv_ (l.reverse.take (j + 1)))) := by
              show World.ownsRow _ _ _ _ _ _ _
              rw [HRX.out, sv_append]
              exact hown5
            clear hown5 hgrow5 hat5 hal
            go_wp2_with fail
            go_roundw
            case rel => exact ⟨j + 1, g5, c5, by omega, congrArg (Value.int .i64) (by have := HM.out; omega), rfl, HN5.out, HL5.out, HB5.out⟩
            case measure => have := HM.out; simp [intOf] <;> omega
        · obtain rfl : j = l.length := by omega
          have hmi : (l.length : Int) - 1 - (l.length : Int) = -1 := by omega
          rw [hmi]
          have HNF : Hid (OwnT wr w3.heap.size g' c' l.reverse) := by
            have h := hown.out
            rw [HRL.out] at h
            show World.ownsRow _ _ _ _ _ _ _
            rw [List.length_reverse]
            exact h
          go_wp2_with fail
          refine (HT.out wr w3.heap.size g' c' HNF.out).mono ?_
          rintro e w5 ⟨rfl, hb5⟩
          have HB5 := Lib.hid (hbel.out.trans (hb5.mono hbel.out.size))
          clear hb5
          go_wp2_with fail
          refine (HK.out w5).mono ?_
          rintro e w6 ⟨hb6, A6, c6, rfl⟩
          have HB6 := Lib.hid (HB5.out.trans (hb6.mono HB5.out.size))
          clear hb6
          go_wp2_with fail
          go_ret
          exact ⟨rfl, HB6.out⟩
  · have d0 : decide ((n : Int) > 1048576) = true := by simp; omega
    go_enter Tryz.func7, Tryz.ntmps7
    go_wp2_with fail
    go_ret
    exact ⟨rfl, Below.refl _ _⟩

end Go.Proofs.YthlenhnioocbgaaGreatDoor
