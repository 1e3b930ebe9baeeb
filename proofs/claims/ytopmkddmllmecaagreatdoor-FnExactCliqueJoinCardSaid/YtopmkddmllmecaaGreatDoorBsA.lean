/- Lists of texts: szStringS, toStringS, eqStringS of the laws. -/
import Derived.Test.YtopmkddmllmecaaGreatDoorImpZ
import Derived.OwnWalk
namespace Go.Proofs.YtopmkddmllmecaaGreatDoor
open Go.RowKit Rt

/-- A row of texts that is read alone. -/
def Texts (w : World) (A : Option Addr) (ss : List ByteArray) : Prop := ∀ (j : Nat) (s : ByteArray), ss[j]? = some s → ∃ g o, A = some ⟨g, o, none⟩ ∧ w.cell? ⟨g, o + j, none⟩ = some (.string s)

def strv (ss : List ByteArray) : List Value := ss.map Value.string

def szGo : List ByteArray → Int → Int
  | [], l => l
  | s :: r, l => if l - s.size < 0 then -1 else szGo r (l - s.size)

/-- What szStringS gives. -/
def szL (ss : List ByteArray) (left : Int) : Int := if left - ss.length < 0 then -1 else szGo ss (left - ss.length)

theorem szGo_step (ss : List ByteArray) (k : Nat) (s : ByteArray) (h : ss[k]? = some s) (l : Int) : szGo (ss.drop k) l = if l - s.size < 0 then -1 else szGo (ss.drop (k + 1)) (l - s.size) := by
  have hk : k < ss.length := (List.getElem?_eq_some_iff.1 h).1
  have hs : ss[k] = s := (List.getElem?_eq_some_iff.1 h).2
  rw [List.drop_eq_getElem_cons hk, szGo, hs]

set_option maxHeartbeats 800000 in
set_option maxRecDepth 100000 in
theorem szStringS_any (A : Option Addr) (c : Nat) (ss : List ByteArray) (left : Int) (w : World) (h0 : 0 ≤ left) (h1 : left ≤ 1048576) (hn : ss.length ≤ maxLen) (hs : ∀ s ∈ ss, s.size ≤ maxLen) (hA : Texts w A ss) :
    Calls Tryz.prog 25 #[.slice A ss.length c, .int .i64 left] w fun e w' => e = .returned (.int .i64 (szL ss left)) ∧ w = w' := by
  unfold maxLen at hn hs
  have HA := Lib.hid hA
  have HS := Lib.hid hs
  have HZ : Hid (szL ss left = if left - ss.length < 0 then -1 else szGo ss (left - ss.length)) := rfl
  generalize szL ss left = z at HZ ⊢
  clear hA hs
  by_cases hneg : left - (ss.length : Int) < 0
  · have HZ2 : Hid (z = -1) := by show _ = _; rw [HZ.out, if_pos hneg]
    go_enter Tryz.func25, Tryz.ntmps25
    go_wp2_with fail
    go_ret
    exact ⟨by rw [HZ2.out]; rfl, rfl⟩
  · have HZ2 : Hid (z = szGo ss (left - ss.length)) := by show _ = _; rw [HZ.out, if_neg hneg]
    go_enter Tryz.func25, Tryz.ntmps25
    go_wp2_with fail
    go_loop [1, 5] (fun lv iv => ∃ (k : Nat) (L : Int), k ≤ ss.length ∧ iv = .int .i64 k ∧ lv = .int .i64 L ∧ 0 ≤ L ∧ L ≤ 1048576 ∧ Hid (z = szGo (ss.drop k) L)) (fun _ iv => ss.length - (intOf iv).toNat)
    case atStart => exact ⟨0, _, Nat.zero_le _, rfl, rfl, by omega, by omega, by show z = _; rw [List.drop_zero]; exact HZ2.out⟩
    case round =>
      obtain ⟨k, L, hk, rfl, rfl, hL0, hL1, hz⟩ := hrel
      by_cases hlt : k < ss.length
      · obtain ⟨s, hsk⟩ : ∃ s, ss[k]? = some s := ⟨_, List.getElem?_eq_getElem hlt⟩
        obtain ⟨g, o, rfl, e0⟩ := HA.out k s hsk
        have hsz := HS.out s (List.mem_of_getElem? hsk)
        have hst := szGo_step ss k s hsk L
        have hz2 := hz.out
        rw [hst] at hz2
        by_cases hc : L - (s.size : Int) < 0
        · rw [if_pos hc] at hz2
          have HZ3 := Lib.hid hz2
          clear hz2 hst hsk
          go_wp2_with fail
          go_ret
          exact ⟨by rw [HZ3.out]; rfl, rfl⟩
        · rw [if_neg hc] at hz2
          have HZ3 := Lib.hid hz2
          clear hz2 hst hsk
          go_wp2_with fail
          go_round
          case rel => exact ⟨k + 1, _, by omega, by go_num, rfl, by omega, by omega, HZ3.out⟩
          case measure => simp [intOf]; omega
      · obtain rfl : k = ss.length := by omega
        have HZ3 : Hid (z = L) := by
          have := hz.out
          rw [List.drop_length] at this
          exact this
        go_wp2_with fail
        go_ret
        exact ⟨by rw [HZ3.out]; rfl, rfl⟩

/-- A copy of texts, in a row of the call's own. -/
def CopyPost (w : World) (ss : List ByteArray) (e : Ending) (w' : World) : Prop :=
  Below w.heap.size w w' ∧ e = .returned (.slice (some ⟨w.heap.size, 0, none⟩) ss.length ss.length) ∧ w'.ownsRow w.heap.size 9 1 (.slice (some ⟨w.heap.size, 0, none⟩) ss.length ss.length) ss.length (strv ss)

theorem strv_take (ss : List ByteArray) (k : Nat) (s : ByteArray) (z : Value) (h : ss[k]? = some s) : (strv (ss.take k) ++ List.replicate (ss.length - k) z).set k (.string s) = strv (ss.take (k + 1)) ++ List.replicate (ss.length - (k + 1)) z := by
  have hk : k < ss.length := (List.getElem?_eq_some_iff.1 h).1
  have hl : (strv (ss.take k)).length = k := by simp [strv]; omega
  rw [List.set_append_right _ _ (by omega), hl, Nat.sub_self, show ss.length - k = (ss.length - (k + 1)) + 1 by omega, List.replicate_succ, List.set_cons_zero, List.take_add_one, h]
  simp [strv]

theorem made_strs (n : Nat) : (madeCells (Value.string ⟨#[]⟩).cells (n * 1)).toList = List.replicate n (Value.string ⟨#[]⟩) := by
  have hc : (Value.string ⟨#[]⟩).cells = #[Value.string ⟨#[]⟩] := rfl
  rw [hc, Nat.mul_one]
  apply List.ext_getElem
  · simp [madeCells]
  · intro i h1 h2
    simp [madeCells, Nat.mod_one]

set_option maxHeartbeats 1600000 in
set_option maxRecDepth 100000 in
theorem toStringS_any (A : Option Addr) (c : Nat) (ss : List ByteArray) (w : World) (hn : ss.length ≤ 1048576) (hA : Texts w A ss) :
    Calls Tryz.prog 27 #[.slice A ss.length c] w (CopyPost w ss) := by
  obtain ⟨i0, hi0, hz0, hz1, hz2⟩ := info_parts text_info
  have HA := Lib.hid hA
  clear hA
  go_enter Tryz.func27, Tryz.ntmps27
  go_wp2_with (at_make; refine wpList_make_full _ rfl _ _ 22 rfl w.heap.size 9 i0 (.string ⟨#[]⟩) 1 Tryz.underlying22 hi0 hz0 hz1 .i64 .i64 _ _ ss.length rfl rfl rfl rfl (by rw [hz2]; omega) (by unfold maxLen; omega) (Nat.le_refl _) ?_; intro w1 hown1 hg1; rw [made_strs] at hown1; have H1 : Hid (w1.ownsRow w.heap.size 9 1 (.slice (some ⟨w.heap.size, 0, none⟩) ss.length ss.length) ss.length (strv (ss.take 0) ++ List.replicate (ss.length - 0) (.string ⟨#[]⟩))) := (by show World.ownsRow _ _ _ _ _ _ _; rw [List.take_zero, Nat.sub_zero]; exact hown1); have HB1 : Hid (Below w.heap.size w w1) := ⟨hg1.os, hg1.tape, hg1.output, hg1.size, fun k hk => hg1.block k hk (by simp)⟩; clear hown1 hg1)
  go_loopw [4] (fun iv wr => ∃ k : Nat, k ≤ ss.length ∧ iv = .int .i64 k ∧ Hid (wr.ownsRow w.heap.size 9 1 (.slice (some ⟨w.heap.size, 0, none⟩) ss.length ss.length) ss.length (strv (ss.take k) ++ List.replicate (ss.length - k) (.string ⟨#[]⟩))) ∧ Hid (Below w.heap.size w wr)) (fun iv _ => ss.length - (intOf iv).toNat)
  case atStart => exact ⟨0, Nat.zero_le _, rfl, H1.out, HB1.out⟩
  case round =>
    obtain ⟨k, hk, rfl, hown, hbel⟩ := hrel
    by_cases hlt : k < ss.length
    · obtain ⟨s, hsk⟩ : ∃ s, ss[k]? = some s := ⟨_, List.getElem?_eq_getElem hlt⟩
      obtain ⟨g, o, rfl, e0⟩ := HA.out k s hsk
      have hg : g < w.heap.size := World.block_lt_of_cell? w _ e0
      have e1 : wr.cell? ⟨g, o + k, none⟩ = some (.string s) := (hbel.out.cell (p := ⟨g, o + k, none⟩) hg).trans e0
      have hst := (hown.out.stored k (.string s)).1
      rw [strv_take ss k s _ hsk] at hst
      have HST := Lib.hid hst
      obtain ⟨g4, e4, _, _, _, _, h5⟩ := own_cells hown.out (by omega)
      injection e4 with e4
      injection e4 with e4
      subst e4
      obtain ⟨x, hx⟩ : ∃ x, (strv (ss.take k) ++ List.replicate (ss.length - k) (Value.string ⟨#[]⟩))[k]? = some x := ⟨_, List.getElem?_eq_getElem (by simp [strv]; omega)⟩
      have e2 := h5 k x hx
      have e3 := hown.out.frozenAt k
      clear e0 hst h5 hx hsk
      go_wp2_with fail
      go_roundw
      case rel => exact ⟨k + 1, by omega, by go_num, HST.out, hbel.out.setCell (Nat.le_refl _) _⟩
      case measure => simp [intOf]; omega
    · obtain rfl : k = ss.length := by omega
      have H3 := hown.out
      rw [List.take_of_length_le (Nat.le_refl _), Nat.sub_self, List.replicate_zero, List.append_nil] at H3
      have H4 := Lib.hid H3
      clear H3
      go_wp2_with fail
      go_ret
      exact ⟨hbel.out, rfl, H4.out⟩

end Go.Proofs.YtopmkddmllmecaaGreatDoor
