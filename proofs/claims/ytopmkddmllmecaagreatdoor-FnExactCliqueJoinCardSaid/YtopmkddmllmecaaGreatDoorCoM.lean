/- The model's l3Trees: a list of texts read as terms. -/
import Derived.Test.YtopmkddmllmecaaGreatDoorCoL
set_option linter.unusedSimpArgs false
set_option linter.unusedVariables false
namespace Go.Proofs.YtopmkddmllmecaaGreatDoor
open Go.RowKit Rt Go.Lib

/-- What l3Trees gives. -/
def TreesPost (w : World) (r : Option (List Term)) (e : Ending) (w' : World) : Prop :=
  Below w.heap.size w w' ∧ match r with
    | none => ∃ v, e = .returned (.tuple #[v, .bool false])
    | some ts => ∃ v xs, e = .returned (.tuple #[v, .bool true]) ∧ TRow w' v ts xs

theorem TreesPost.no {w w' : World} {r : Option (List Term)} {e : Ending} {v : Value} (hr : r = none) (hb : Below w.heap.size w w') (he : e = .returned (.tuple #[v, .bool false])) : TreesPost w r e w' := by
  subst hr; exact ⟨hb, v, he⟩
theorem TreesPost.yes {w w' : World} {r : Option (List Term)} {e : Ending} {v : Value} {ts : List Term} {xs : List Value} (hr : r = some ts) (hb : Below w.heap.size w w') (he : e = .returned (.tuple #[v, .bool true])) (ht : TRow w' v ts xs) : TreesPost w r e w' := by
  subst hr; exact ⟨hb, v, xs, he, ht⟩

/-- What holds at the head of l3Trees' loop. -/
structure TrRel (w wr : World) (ts : List Term) (g d : Nat) (xs : List Value) : Prop where
  own : wr.ownsRow w.heap.size 84 2 (.slice (some ⟨g, 0, none⟩) ts.length d) ts.length xs
  gB : w.heap.size ≤ g
  gS : g < wr.heap.size
  rep : RepFF (fun q => w.heap.size ≤ q ∧ q ≠ g) wr (ofTerms ts) xs
  below : Below w.heap.size w wr

set_option maxHeartbeats 3200000 in
set_option maxRecDepth 100000 in
theorem l3Trees_any (A : Option Addr) (c : Nat) (ss : List ByteArray) (w : World) (hn : ss.length ≤ 1048576) (hs : ∀ s ∈ ss, s.size ≤ maxLen) (hA : Texts w A ss) :
    Calls Tryz.prog 63 #[.slice A ss.length c] w (TreesPost w (termsOf ss)) := by
  obtain ⟨i0, hi0, hz0, hz1, hz2⟩ := info_parts tree_info
  have HA := Lib.hid hA
  have HS := Lib.hid hs
  have HSNO : Hid (∀ (k : Nat) (s : ByteArray) (ts : List Term) (t : Term), ss[k]? = some s → termsOf (ss.take k) = some ts → termOf s.data.toList = some t → termsOf (ss.take (k + 1)) = some (ts ++ [t])) := termsOf_snoc ss
  have HNO : Hid (∀ (k : Nat) (s : ByteArray), ss[k]? = some s → termOf s.data.toList = none → termsOf ss = none) := termsOf_none ss
  have HALL : Hid (∀ ts, termsOf (ss.take ss.length) = some ts → termsOf ss = some ts) := fun ts h => by rwa [List.take_length] at h
  have H0 : Hid (termsOf (ss.take 0) = some []) := rfl
  generalize termsOf ss = R at *
  clear hA hs
  go_enter Tryz.func63, Tryz.ntmps63
  go_wp2_with fail
  go_loopw [4, 5] (fun ov iv wr => ∃ (k g d : Nat) (ts : List Term) (xs : List Value), k ≤ ss.length ∧ ts.length = k ∧ iv = .int .i64 k ∧ ov = .slice (some ⟨g, 0, none⟩) k d ∧ Hid (termsOf (ss.take k) = some ts) ∧ TrRel w wr ts g d xs) (fun _ iv _ => ss.length - (intOf iv).toNat)
  case atStart =>
    refine ⟨0, w.heap.size, 0, [], [], Nat.zero_le _, rfl, rfl, rfl, H0.out, ?_, Nat.le_refl _, by simp, by simp [ofTerms, RepFF], below_one w _⟩
    exact own_new w 84 #[] 0 2 w.heap.size (Nat.le_refl _) rfl (by decide)
  case round =>
    obtain ⟨k, g, d, ts, xs, hk, htk, rfl, rfl, hT, hrel⟩ := hrel
    have HTK := Lib.hid htk
    have HREL := Lib.hid hrel
    have hszw : w.heap.size ≤ wr.heap.size := hrel.below.size
    clear hrel htk
    by_cases hlt : k < ss.length
    · obtain ⟨s, hsk⟩ : ∃ s, ss[k]? = some s := ⟨_, List.getElem?_eq_getElem hlt⟩
      have HSK := Lib.hid hsk
      obtain ⟨g', o, rfl, e0⟩ := (HA.out.below HREL.out.below) k s hsk
      have hsz := HS.out s (List.mem_of_getElem? hsk)
      have HCC : Hid (Calls Tryz.prog 60 #[.string s] wr (LoosePost wr (termOf s.data.toList))) := l1Term_any l1Bag_any s hsz wr
      clear hsk hsz
      go_wp2_with fail
      refine HCC.out.mono ?_
      intro e w3 hp
      obtain ⟨u, A3, n3, d3, rfl, hb3, hr3⟩ := loose_flat hp
      have HB3 := Lib.hid hb3
      have HR3 := Lib.hid hr3
      have hsz3 : wr.heap.size ≤ w3.heap.size := hb3.size
      clear hp hb3 hr3 HCC
      cases ht : termOf s.data.toList with
      | none =>
        have HN : Hid (R = none) := HNO.out k s HSK.out ht
        simp only [Option.isSome_none]
        clear ht
        go_wp2_with fail
        refine bodyPost_ret (v := .tuple #[.slice (some ⟨g, 0, none⟩) k d, .bool false]) ?_ rfl ?_
        · simp [results, Tryz.results63, go_sem]
        · exact TreesPost.no HN.out ((HREL.out.below.trans (HB3.out.mono hszw)).alloc (Nat.le_trans hszw hsz3) _) rfl
      | some t =>
        have HN := Lib.hid (HSNO.out k s ts t HSK.out hT.out ht)
        have HRT := Lib.hid (HR3.out t ht)
        simp only [Option.isSome_some]
        clear ht HR3
        have hbox := Blk.new w3 84 #[.string u, .slice A3 n3 d3]
        have hW3 := Lib.hid (below_one w3 (.cells #[.string u, .slice A3 n3 d3] 84))
        go_upto_region 6 with fail
        generalize w3.alloc (.cells #[.string u, .slice A3 n3 d3] 84) = W3 at *
        obtain ⟨q0, q1, -, -⟩ := blk_cells hbox
        have hszW : w3.heap.size + 1 ≤ W3.heap.size := hbox.lt
        have hk3 : Below wr.heap.size wr W3 := HB3.out.trans (hW3.out.mono hsz3)
        have hown3 : W3.ownsRow w.heap.size 84 2 (.slice (some ⟨g, 0, none⟩) k d) k xs := by
          have h0 := HREL.out.own
          rw [HTK.out] at h0
          exact h0.kept (row := none) ⟨hk3.os, hk3.tape, hk3.output, hk3.size, fun q hq _ => hk3.block q hq⟩ (by simp [Value.ownBlock])
        have HOWN := Lib.hid hown3
        have HK3 := Lib.hid hk3
        clear hbox hown3 hk3
        go_wp2_with (at_builtin; refine wpList_append_own_at _ rfl _ _ 82 rfl w.heap.size 84 i0 (.agg #[.string ⟨#[]⟩, .slice none 0 0]) 2 40 Tryz.underlying82 hi0 hz0 hz1 hz2 rfl (Nat.succ_pos 1) (.slice (some ⟨g, 0, none⟩) k d) k xs rfl (HOWN.out.alloc _) ⟨W3.heap.size, 0, none⟩ 1 1 [.string u, .slice A3 n3 d3] rfl rfl (cell_two_new _ _ _ _) ?_ ?_ ?_ ?_ ?_)
        · intro x hx
          simp at hx
          rcases hx with rfl | rfl <;> rfl
        · unfold maxLen; omega
        · omega
        · simp; omega
        · intro v' w5 hown5 hgrow5 _ hat5
          obtain ⟨A5, c5', rfl⟩ := own_shape hown5
          obtain ⟨g5, rfl, o1, o2, o3, o4, o5⟩ := own_cells hown5 (Nat.succ_pos _)
          have hgS := HREL.out.gS
          have hgB := HREL.out.gB
          have hg5 : ∀ q, q < W3.heap.size → q ≠ g → q ≠ g5 := by
            intro q hq hne e
            rcases hat5 with h | h
            · simp [Value.ownBlock] at h; omega
            · simp [Value.ownBlock] at h; omega
          have hal : ∀ q, q < W3.heap.size → q ≠ g → w5.heap[q]? = W3.heap[q]? := by
            intro q hq hne
            rw [hgrow5.block q (by simp; omega) (by simp [Value.ownBlock]; exact hne), Below.heap_alloc _ _ _ hq]
          have hrel5 : TrRel w w5 (ts ++ [t]) g5 c5' (xs ++ [.string u, .slice A3 n3 d3]) := by
            have hl : (ts ++ [t]).length = k + 1 := by simp [HTK.out]
            refine ⟨by rw [hl]; exact hown5, o1, o2, ?_, ?_⟩
            · rw [ofTerms_append]
              refine RepFF.append _ _ _ _ ?_ ?_
              · refine RepFF.move ?_ ?_ _ _ HREL.out.rep
                · intro q hq hq2
                  rw [hal q (by omega) hq.2]
                  exact HK3.out.block q hq2
                · intro q hq hq2
                  exact ⟨hq.1, hg5 q (by omega) hq.2⟩
              · show RepFF _ _ [ofTerm t] _
                refine RepFF.one (RepSF.move ?_ ?_ _ _ HRT.out)
                · intro q hq hq2
                  rw [hal q (by omega) (by omega)]
                  exact hW3.out.block q hq2
                · intro q hq hq2
                  exact ⟨by omega, hg5 q (by omega) (by omega)⟩
            · exact ((HREL.out.below.trans (HK3.out.mono hszw)).alloc (by omega) _).grown hgrow5 (by simp; omega) (fun q hq => by simp [Value.ownBlock] at hq; omega)
          have HREL5 := Lib.hid hrel5
          clear hrel5 hown5 hgrow5 hat5 o1 o2 o3 o4 o5 hg5 hal
          go_wp2_with fail
          go_roundw
          case rel => exact ⟨k + 1, g5, c5', _, _, by omega, by simp [HTK.out], by go_num, rfl, HN.out, HREL5.out⟩
          case measure => simp [intOf]; omega
    · obtain rfl : k = ss.length := by omega
      have HN := Lib.hid (HALL.out ts hT.out)
      go_wp2_with fail
      refine bodyPost_ret (v := .tuple #[.slice (some ⟨g, 0, none⟩) ss.length d, .bool true]) ?_ rfl ?_
      · simp [results, Tryz.results63, go_sem]
      · refine TreesPost.yes HN.out HREL.out.below rfl (trow_own (B := w.heap.size) ?_ HTK.out.symm (RepFF.rep _ _ HREL.out.rep))
        have := HREL.out.own
        rw [HTK.out] at this
        exact this

end Go.Proofs.YtopmkddmllmecaaGreatDoor
