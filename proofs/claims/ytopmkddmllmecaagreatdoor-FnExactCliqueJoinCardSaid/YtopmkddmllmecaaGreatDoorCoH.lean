/- The program's joinTexts, Clique, Coherent, Uniform and CliqueJoin. -/
import Derived.Test.YtopmkddmllmecaaGreatDoorCoG
import Derived.Test.YtopmkddmllmecaaGreatDoorCoB
set_option linter.unusedSimpArgs false
set_option linter.unusedVariables false
namespace Go.Proofs.YtopmkddmllmecaaGreatDoor
open Go.RowKit Rt Go.Lib
open Go.ChangeMaps Go.MapKept Go.Maps Go.WideMaps

set_option maxHeartbeats 3200000 in
set_option maxRecDepth 100000 in
theorem joinTexts_any (A : Option Addr) (c : Nat) (ss : List ByteArray) (w : World) (hn : ss.length ≤ 1048576) (hs : ∀ s ∈ ss, s.size ≤ maxLen) (hA : Texts w A ss) :
    Calls Tryz.prog 62 #[.slice A ss.length c] w (CohPost w (joinT ss)) := by
  have HA := Lib.hid hA
  have HS := Lib.hid hs
  have HSTEP : Hid (∀ (k : Nat) (s : ByteArray) (j : Jt) (t : Term), ss[k]? = some s → joinT (ss.take k) = some j → termOf s.data.toList = some t → joinT (ss.take (k + 1)) = jadd t j) := fun k s j t h1 h2 h3 => joinT_step ss k s j t h1 h2 h3
  have HNO : Hid (∀ (k : Nat) (s : ByteArray), ss[k]? = some s → termOf s.data.toList = none → joinT ss = none) := fun k s h1 h2 => joinT_step_no ss k s h1 h2
  have HPART : Hid (∀ k, joinT (ss.take k) = none → joinT ss = none) := fun k h => joinT_part ss k h
  have HALL : Hid (∀ j, joinT (ss.take ss.length) = some j → joinT ss = some j) := fun j h => by rwa [List.take_length] at h
  have HSH : Hid (∀ k j, joinT (ss.take k) = some j → jshort j) := fun k j h => joinT_short _ j h
  have H0 : Hid (joinT (ss.take 0) = some .un) := rfl
  generalize joinT ss = R at *
  clear hA hs
  go_enter Tryz.func62, Tryz.ntmps62
  go_wp2_with fail
  go_loopw [4, 13] (fun j i wr => ∃ (k : Nat) (jb : Jt), k ≤ ss.length ∧ i = .int .i64 k ∧ j = .iface (jty jb) (jag jb) ∧ Hid (joinT (ss.take k) = some jb) ∧ Hid (Below w.heap.size w wr)) (fun _ i _ => ss.length - (intOf i).toNat)
  case atStart => exact ⟨0, .un, Nat.zero_le _, rfl, rfl, H0.out, Below.refl _ _⟩
  case round =>
    obtain ⟨k, jb, hk, rfl, rfl, hj, hB⟩ := hrel
    by_cases hlt : k < ss.length
    · obtain ⟨s, hsk⟩ : ∃ s, ss[k]? = some s := ⟨_, List.getElem?_eq_getElem hlt⟩
      have HSK := Lib.hid hsk
      obtain ⟨g, o, rfl, e0⟩ := (HA.out.below hB.out) k s hsk
      have hsz := HS.out s (List.mem_of_getElem? hsk)
      have HSZ := Lib.hid hsz
      clear hsk hsz
      go_wp2_with fail
      refine (newTermPool_any _).mono ?_
      rintro e w1 ⟨rfl, hb1, hz1, hP⟩
      have HB1 := Lib.hid hb1
      have HRD : Hid (Calls Tryz.prog 70 #[.pointer (some ⟨wr.heap.size + 1, 0, none⟩), .string s] w1 (PartPost (fun _ => False) w1 (wr.heap.size + 1) wr.heap.size 0 4000 (termOf s.data.toList))) := read_any _ _ _ 0 _ s HSZ.out w1 (by omega) hP
      clear hb1 hP hz1
      go_wp2_with fail
      refine HRD.out.mono ?_
      intro e w2 hpost
      cases ht : termOf s.data.toList with
      | none =>
        rw [ht] at hpost
        obtain ⟨hg2, rfl⟩ := hpost
        have HN : Hid (R = none) := HNO.out k s HSK.out ht
        have HB2 : Hid (Below w.heap.size w w2) := hB.out.trans ((below_pool HB1.out hg2).mono hB.out.size)
        clear ht hg2 HRD
        go_wp2_with fail
        refine bodyPost_ret (v := .tuple #[.iface (jty jb) (jag jb), .bool false]) ?_ rfl ?_
        · simp [results, Tryz.results62, go_sem]
        · exact ⟨HB2.out, _, _, rfl, by simp, fun _ => HN.out⟩
      | some t =>
        rw [ht] at hpost
        obtain ⟨hg2, v, D, n', rfl, hn', hv, hp⟩ := hpost
        have HB2 : Hid (Below w.heap.size w w2) := hB.out.trans ((below_pool HB1.out hg2).mono hB.out.size)
        obtain ⟨o1, o2⟩ := termOf_ok _ t ht
        have HC : Hid (Calls Tryz.prog (cohF jb) #[jag jb, v] w2 (CohPost w2 (jadd t jb))) := coh_any 60 (by omega) t o2 jb _ 0 v w2 (HSH.out k jb hj.out) o1 hv
        have HST : Hid (joinT (ss.take (k + 1)) = jadd t jb) := HSTEP.out k s jb t HSK.out hj.out ht
        have hm := meth_coh jb
        have hc := call_coh jb
        clear ht hg2 HRD hn' hv hp o1 o2
        go_wp2_with fail
        refine HC.out.mono ?_
        rintro e w3 ⟨hb3, j3, o3, rfl, hr3⟩
        have HB3 : Hid (Below w.heap.size w w3) := HB2.out.trans (hb3.mono HB2.out.size)
        have HR3 := Lib.hid hr3
        clear hb3 hr3
        cases o3 with
        | false =>
          have HN : Hid (R = none) := HPART.out (k + 1) (by rw [HST.out]; exact HR3.out.2 rfl)
          go_wp2_with fail
          refine bodyPost_ret (v := .tuple #[.iface (jty j3) (jag j3), .bool false]) ?_ rfl ?_
          · simp [results, Tryz.results62, go_sem]
          · exact ⟨HB3.out, _, _, rfl, by simp, fun _ => HN.out⟩
        | true =>
          have HN : Hid (joinT (ss.take (k + 1)) = some j3) := by show _ = _; rw [HST.out]; exact HR3.out.1 rfl
          go_wp2_with fail
          go_roundw
          case rel => exact ⟨k + 1, j3, by omega, by go_num, rfl, HN.out, HB3.out⟩
          case measure => simp [intOf]; omega
    · obtain rfl : k = ss.length := by omega
      have HN : Hid (R = some jb) := HALL.out jb hj.out
      go_wp2_with fail
      refine bodyPost_ret (v := .tuple #[.iface (jty jb) (jag jb), .bool true]) ?_ rfl ?_
      · simp [results, Tryz.results62, go_sem]
      · exact ⟨hB.out, _, _, rfl, fun _ => HN.out, by simp⟩

theorem CohR.is {r : Option Jt} {j : Jt} {o : Bool} (h : CohR r j o) : o = r.isSome := by
  cases o with
  | true => rw [h.1 rfl]; rfl
  | false => rw [h.2 rfl]; rfl

set_option maxHeartbeats 800000 in
set_option maxRecDepth 100000 in
theorem implClique (A : Option Addr) (c : Nat) (ss : List ByteArray) (w : World) (hn : ss.length ≤ 1048576) (hs : ∀ s ∈ ss, s.size ≤ maxLen) (hA : Texts w A ss) :
    Calls Tryz.prog 28 #[.slice A ss.length c] w fun e w' => e = .returned (.bool (joinT ss).isSome) ∧ Below w.heap.size w w' := by
  have HJ := Lib.hid (joinTexts_any A c ss w hn hs hA)
  clear hs hA
  generalize joinT ss = R at *
  go_enter Tryz.func28, Tryz.ntmps28
  go_wp2_with fail
  refine HJ.out.mono ?_
  rintro e w2 ⟨hb2, j2, o2, rfl, hr2⟩
  have HB2 := Lib.hid hb2
  have HR2 : Hid (o2 = R.isSome) := hr2.is
  clear hb2 hr2
  go_wp2_with fail
  go_ret
  exact ⟨ret_bool HR2.out, HB2.out⟩

theorem texts_two (w : World) (a b : ByteArray) : Texts (w.alloc (.cells #[.string a, .string b] 9)) (some ⟨w.heap.size, 0, none⟩) [a, b] := fun j s hj => by
  refine ⟨w.heap.size, 0, rfl, ?_⟩
  rw [(Blk.new w 9 #[.string a, .string b]).cell]
  match j, hj with
  | 0, hj => simp at hj; subst hj; rfl
  | 1, hj => simp at hj; subst hj; rfl
  | j + 2, hj => simp at hj
theorem texts_one (w : World) (a : ByteArray) : Texts (w.alloc (.cells #[.string a] 9)) (some ⟨w.heap.size, 0, none⟩) [a] := fun j s hj => by
  refine ⟨w.heap.size, 0, rfl, ?_⟩
  rw [(Blk.new w 9 #[.string a]).cell]
  match j, hj with
  | 0, hj => simp at hj; subst hj; rfl
  | j + 1, hj => simp at hj

set_option maxHeartbeats 800000 in
set_option maxRecDepth 100000 in
theorem implCoherent (a b : ByteArray) (w : World) (ha : a.size ≤ maxLen) (hb : b.size ≤ maxLen) :
    Calls Tryz.prog 22 #[.string a, .string b] w fun e w' => e = .returned (.bool (cohRes a b)) ∧ Below w.heap.size w w' := by
  have HJ : Hid (Calls Tryz.prog 28 #[.slice (some ⟨w.heap.size, 0, none⟩) 2 2] (w.alloc (.cells #[.string a, .string b] 9)) fun e w' => e = .returned (.bool (cohRes a b)) ∧ Below (w.alloc (.cells #[.string a, .string b] 9)).heap.size (w.alloc (.cells #[.string a, .string b] 9)) w') := by
    have := implClique (some ⟨w.heap.size, 0, none⟩) 2 [a, b] (w.alloc (.cells #[.string a, .string b] 9)) (by simp) (by intro s hs; simp at hs; rcases hs with rfl | rfl <;> assumption) (texts_two w a b)
    rw [joinT_two] at this
    exact this
  generalize cohRes a b = r at *
  unfold maxLen at ha hb
  go_enter Tryz.func22, Tryz.ntmps22
  go_wp2_with fail
  refine HJ.out.mono ?_
  rintro e w2 ⟨rfl, hb2⟩
  have HB2 : Hid (Below w.heap.size w w2) := (below_one w _).trans (hb2.mono (by simp))
  clear hb2
  go_wp2_with fail
  go_ret
  exact ⟨rfl, HB2.out⟩

set_option maxHeartbeats 800000 in
set_option maxRecDepth 100000 in
theorem implUniform (a : ByteArray) (w : World) (ha : a.size ≤ maxLen) :
    Calls Tryz.prog 24 #[.string a] w fun e w' => e = .returned (.bool (cohRes a a)) ∧ Below w.heap.size w w' := by
  have HJ : Hid (Calls Tryz.prog 28 #[.slice (some ⟨w.heap.size, 0, none⟩) 1 1] (w.alloc (.cells #[.string a] 9)) fun e w' => e = .returned (.bool (cohRes a a)) ∧ Below (w.alloc (.cells #[.string a] 9)).heap.size (w.alloc (.cells #[.string a] 9)) w') := by
    have := implClique (some ⟨w.heap.size, 0, none⟩) 1 [a] (w.alloc (.cells #[.string a] 9)) (by simp) (by intro s hs; simp at hs; subst hs; assumption) (texts_one w a)
    rw [joinT_one] at this
    exact this
  generalize cohRes a a = r at *
  unfold maxLen at ha
  go_enter Tryz.func24, Tryz.ntmps24
  go_wp2_with fail
  refine HJ.out.mono ?_
  rintro e w2 ⟨rfl, hb2⟩
  have HB2 : Hid (Below w.heap.size w w2) := (below_one w _).trans (hb2.mono (by simp))
  clear hb2
  go_wp2_with fail
  go_ret
  exact ⟨rfl, HB2.out⟩

set_option maxHeartbeats 1600000 in
set_option maxRecDepth 100000 in
theorem implCliqueJoin (A : Option Addr) (c : Nat) (ss : List ByteArray) (w : World) (hn : ss.length ≤ 1048576) (hs : ∀ s ∈ ss, s.size ≤ maxLen) (hA : Texts w A ss) :
    Calls Tryz.prog 31 #[.slice A ss.length c] w fun e w' => e = .returned (.tuple #[st (joinRes ss).1, .bool (joinRes ss).2]) ∧ Below w.heap.size w w' := by
  have HJ := Lib.hid (joinTexts_any A c ss w hn hs hA)
  have HRES : Hid (joinRes ss = match joinT ss with | none => ([], false) | some j => if ss ≠ [] ∧ jsize j ≤ 60 then (jtext j, true) else ([], false)) := rfl
  have HSZ : Hid (∀ j, joinT ss = some j → jsize j ≤ 1000000000 ∧ jshort j) := fun j h => ⟨by have := joinT_size ss j h; omega, joinT_short ss j h⟩
  clear hs hA
  generalize joinT ss = R at *
  generalize joinRes ss = x at *
  have hnil : ss = [] ↔ ss.length = 0 := by simp
  have HNIL := Lib.hid hnil
  clear hnil
  have fin : ∀ (w' : World), Hid (x = ([], false)) → Hid (Below w.heap.size w w') → (Ending.returned (.tuple #[.string ⟨#[]⟩, .bool false]) = Ending.returned (.tuple #[st x.1, .bool x.2]) ∧ Below w.heap.size w w') := fun w' h hb => by
    rw [h.out]; exact ⟨rfl, hb.out⟩
  have FIN := Lib.hid fin
  clear fin
  have HEMP : Hid (∀ (W : World) (w2 : World), Hid (x = ([], false)) → True) := fun _ _ _ => trivial
  clear HEMP
  generalize ss.length = n at *
  clear hn
  by_cases h0 : n = 0
  · have H0 := Lib.hid h0
    have HX : Hid (x = ([], false)) := by
      show _ = _
      rw [HRES.out]
      cases R with
      | none => rfl
      | some j => simp only; rw [if_neg (fun h => h.1 (HNIL.out.2 h0))]
    have hq : ((n : Int) == 0) = true := by simpa using (by omega : (n : Int) = 0)
    clear h0
    go_enter Tryz.func31, Tryz.ntmps31
    go_wp2_with fail
    refine HJ.out.mono ?_
    rintro e w2 ⟨hb2, j2, o2, rfl, hr2⟩
    have HB2 := Lib.hid hb2
    clear hb2 hr2
    cases o2
    all_goals
      go_wp2_with fail
      go_ret2
      exact FIN.out _ HX HB2
  · have hq : ((n : Int) == 0) = false := by simpa using (by omega : (n : Int) ≠ 0)
    have HNE : Hid (ss ≠ []) := fun h => h0 (HNIL.out.1 h)
    go_enter Tryz.func31, Tryz.ntmps31
    go_wp2_with fail
    refine HJ.out.mono ?_
    rintro e w2 ⟨hb2, j2, o2, rfl, hr2⟩
    have HB2 := Lib.hid hb2
    clear hb2
    cases o2 with
    | false =>
      have HX : Hid (x = ([], false)) := by show _ = _; rw [HRES.out, hr2.2 rfl]
      clear hr2
      go_wp2_with fail
      go_ret2
      exact FIN.out _ HX HB2
    | true =>
      have hR := hr2.1 rfl
      obtain ⟨hz, hsh⟩ := HSZ.out j2 hR
      have hm := meth_size j2
      have hc := call_size j2
      have hm2 := meth_text j2
      have hc2 := call_text j2
      have HS : Hid (∀ (w : World), Calls Tryz.prog (sizeF j2) #[jag j2] w fun e w' => e = .returned (.int .i64 (jsize j2)) ∧ Below w.heap.size w w') := size_any j2 hz
      by_cases h60 : jsize j2 ≤ 60
      · have HX : Hid (x = (jtext j2, true)) := by show _ = _; rw [HRES.out, hR]; simp only; rw [if_pos ⟨HNE.out, h60⟩]
        have hl := jtext_len j2 hsh
        have HT := Lib.hid (text_any j2 (by omega))
        have hq2 : decide ((60 : Int) < (jsize j2 : Int)) = false := by simp; omega
        have hq3 : decide ((jsize j2 : Int) > 60) = false := by simp; omega
        clear hr2 hR hsh hl
        go_wp2_with (first
          | ((with_reducible refine (HS.out _).mono ?_); rintro e w3 ⟨rfl, hb3⟩; have HB3 : Hid (Below w.heap.size w w3) := HB2.out.trans (hb3.mono HB2.out.size); clear hb3)
          | ((with_reducible refine (HT.out _).mono ?_); rintro e w4 ⟨rfl, hb4⟩; have HB4 : Hid (Below w.heap.size w w4) := HB3.out.trans (hb4.mono HB3.out.size); clear hb4))
        all_goals
          go_ret2
          exact ⟨by rw [HX.out]; rfl, HB4.out⟩
      · have HX : Hid (x = ([], false)) := by show _ = _; rw [HRES.out, hR]; simp only; rw [if_neg (fun h => h60 h.2)]
        have hq2 : decide ((60 : Int) < (jsize j2 : Int)) = true := by simp; omega
        have hq3 : decide ((jsize j2 : Int) > 60) = true := by simp; omega
        clear hr2 hR hsh
        go_wp2_with (first
          | ((with_reducible refine (HS.out _).mono ?_); rintro e w3 ⟨rfl, hb3⟩; have HB3 : Hid (Below w.heap.size w w3) := HB2.out.trans (hb3.mono HB2.out.size); clear hb3))
        all_goals
          go_ret2
          exact FIN.out _ HX HB3

end Go.Proofs.YtopmkddmllmecaaGreatDoor
