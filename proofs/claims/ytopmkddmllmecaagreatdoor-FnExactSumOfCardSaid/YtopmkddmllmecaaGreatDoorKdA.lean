/- The marks of the laws: markText, markStringS, heldStringS. -/
import Derived.Test.YtopmkddmllmecaaGreatDoorBsB
import Derived.Test.YtopmkddmllmecaaGreatDoorSpA
namespace Go.Proofs.YtopmkddmllmecaaGreatDoor
open Go.RowKit Rt

/-- The digits of a mark. -/
def mkd (k : Nat) : B := if k = 0 then [] else mkd (k / 10) ++ [UInt8.ofNat (48 + k % 10)]
termination_by k
decreasing_by omega

theorem mkd_zero : mkd 0 = [] := by rw [mkd]; simp
theorem mkd_pos (k : Nat) (h : 0 < k) : mkd k = mkd (k / 10) ++ [UInt8.ofNat (48 + k % 10)] := by rw [mkd]; simp; omega

def mark (k : Nat) : ByteArray := ⟨(109 :: mkd k).toArray⟩

theorem mark_of (k : Nat) (x : ByteArray) (h : mkd k = x.data.toList) : mark k = ⟨#[109]⟩ ++ x := by
  apply ByteArray.ext
  apply Array.ext'
  rw [ByteArray.data_append, Array.toList_append]
  simp [mark, h]

theorem mk_step (k j : Nat) (o : ByteArray) (h : 0 < j) (e : mkd k = mkd j ++ o.data.toList) : mkd k = mkd (j / 10) ++ ((⟨#[UInt8.ofNat (48 + j % 10)]⟩ : ByteArray) ++ o).data.toList := by
  rw [e, mkd_pos j h, ByteArray.data_append, Array.toList_append]
  simp

set_option maxHeartbeats 800000 in
set_option maxRecDepth 100000 in
theorem markText_any (k : Nat) (h0 : 0 < k) (h1 : k ≤ 3000000) (w : World) :
    Calls Tryz.prog 77 #[.int .i64 k] w fun e w' => e = .returned (.string (mark k)) ∧ Below w.heap.size w w' := by
  have HM : Hid (∀ x : ByteArray, mkd k = x.data.toList → mark k = ⟨#[109]⟩ ++ x) := mark_of k
  generalize mark k = m at HM ⊢
  go_enter Tryz.func77, Tryz.ntmps77
  go_wp2_with fail
  go_loopw [0, 3] (fun lv iv wr => ∃ (j : Nat) (o : ByteArray), j + o.size ≤ 3000000 ∧ lv = .int .i64 j ∧ iv = .string o ∧ Hid (mkd k = mkd j ++ o.data.toList) ∧ Hid (Below w.heap.size w wr)) (fun lv _ _ => (intOf lv).toNat)
  case atStart => exact ⟨k, ⟨#[]⟩, by simpa [ByteArray.size] using h1, rfl, rfl, by show mkd k = _; simp, Below.refl _ _⟩
  case round =>
    obtain ⟨j, o, hj, rfl, rfl, hm, hbel⟩ := hrel
    by_cases hlt : 0 < j
    · have e1 : (j : Int).tdiv 10 = (j : Int) / 10 := Int.tdiv_eq_ediv_of_nonneg (by omega)
      have e2 : IntKind.i64.wrap ((j : Int) / 10) = (j : Int) / 10 := IntWalk.i64_in _ (by omega)
      have e3 : (j : Int).tmod 10 = (j : Int) % 10 := Int.tmod_eq_emod_of_nonneg (by omega)
      have e4 : IntKind.i64.wrap ((j : Int) % 10) = (j : Int) % 10 := IntWalk.i64_in _ (by omega)
      have e5 : IntKind.i64.wrap (48 + (j : Int) % 10) = 48 + (j : Int) % 10 := IntWalk.i64_in _ (by omega)
      have e6 : IntKind.u8.wrap (48 + (j : Int) % 10) = 48 + (j : Int) % 10 := IntWalk.u8_in _ (by omega)
      have hc1 : (48 + (j : Int) % 10).toNat = 48 + j % 10 := by omega
      have hcv : ∀ (W : World), (convert 139 9 (.slice (some ⟨W.heap.size, 0, none⟩) 1 1)).run Tryz.prog (W.alloc (.cells #[.int .u8 (48 + (j : Int) % 10)] 5)) = .ok (.string ⟨#[UInt8.ofNat (48 + j % 10)]⟩) (W.alloc (.cells #[.int .u8 (48 + (j : Int) % 10)] 5)) := fun W => by rw [conv_byte W _, hc1]
      have hst := mk_step k j o hlt hm.out
      generalize UInt8.ofNat (48 + j % 10) = c at hcv hst
      have HST := Lib.hid hst
      have hz : ∀ c : UInt8, ((⟨#[c]⟩ : ByteArray) ++ o).size = 1 + o.size := fun c => by simp [ByteArray.size_append]; rfl
      clear hc1 hst
      go_wp2_with fail
      go_roundw
      case rel => exact ⟨j / 10, _, by rw [hz]; omega, by go_num, rfl, HST.out, hbel.out.alloc hbel.out.size _⟩
      case measure => simp [intOf]; omega
    · obtain rfl : j = 0 := by omega
      have HX : Hid (mkd k = o.data.toList) := by show _ = _; rw [hm.out, mkd_zero]; rfl
      go_wp2_with fail
      go_ret
      exact ⟨by rw [HM.out o HX.out]; rfl, hbel.out⟩

theorem own_len {w : World} {B : Nat} {v : Value} {n : Nat} {vs : List Value} (h : w.ownsRow B 9 1 v n vs) : vs.length = n * 1 := h.1

/-- The marks from k on. -/
def marks (n k : Nat) : List ByteArray := (List.range n).map fun i => mark (k + i)

theorem marks_length (n k : Nat) : (marks n k).length = n := by simp [marks]
theorem marks_at (n k j : Nat) (h : j < n) : (marks n k)[j]? = some (mark (k + j)) := by simp [marks, h]

/-- A row of texts that is the call's own: what a block holds. -/
def Row (w : World) (B : Nat) (A : Option Addr) (c : Nat) (ss : List ByteArray) : Prop := w.ownsRow B 9 1 (.slice A ss.length c) ss.length (strv ss)

set_option maxHeartbeats 1600000 in
set_option maxRecDepth 100000 in
theorem heldStringS_same (A : Option Addr) (c n k : Nat) (w : World) (h0 : 0 < k) (hn : n ≤ 1000000) (hk : k ≤ 1000000) (hA : Texts w A (marks n k)) :
    Calls Tryz.prog 46 #[.slice A n c, .int .i64 k] w fun e w' => e = .returned (.int .i64 (k + n : Nat)) ∧ Below w.heap.size w w' := by
  have HA := Lib.hid hA
  have HM : Hid (∀ (j : Nat) (W : World), j < n → Calls Tryz.prog 77 #[.int .i64 ((k + j : Nat) : Int)] W fun e w' => e = .returned (.string (mark (k + j))) ∧ Below W.heap.size W w') := fun j W h => markText_any (k + j) (by omega) (by omega) W
  clear hA
  go_enter Tryz.func46, Tryz.ntmps46
  go_wp2_with fail
  go_loopw [1, 5] (fun lv iv wr => ∃ j : Nat, j ≤ n ∧ lv = .int .i64 ((k + j : Nat) : Int) ∧ iv = .int .i64 j ∧ Hid (Below w.heap.size w wr)) (fun _ iv _ => n - (intOf iv).toNat)
  case atStart => exact ⟨0, Nat.zero_le _, rfl, rfl, Below.refl _ _⟩
  case round =>
    obtain ⟨j, hj, rfl, rfl, hbel⟩ := hrel
    by_cases hlt : j < n
    · obtain ⟨g, o, rfl, e0⟩ := (HA.out.below hbel.out) j _ (marks_at n k j hlt)
      have HMj : Hid (∀ W : World, Calls Tryz.prog 77 #[.int .i64 ((k : Int) + (j : Int))] W fun e w' => e = .returned (.string (mark (k + j))) ∧ Below W.heap.size W w') := fun W => HM.out j W hlt
      generalize mark (k + j) = s at e0 HMj
      have hq1 : (s.toList == s.toList) = true := by simp
      have hq2 : (s.toList != s.toList) = false := by simp
      have hgl : g < wr.heap.size := World.block_lt_of_cell? wr _ e0
      go_wp2_with fail
      go_region_with (go_at_call 77; (with_reducible refine (HMj.out _).mono ?_); rintro e w1 ⟨rfl, hb⟩; have hc1 : w1.cell? ⟨g, o + j, none⟩ = some (.string s) := (hb.cell (p := ⟨g, o + j, none⟩) (by simpa using hgl)).trans (by simpa using e0); have HB1 := Lib.hid hb; clear hb)
      all_goals
        go_wp2_with fail
        go_roundw
        case rel => exact ⟨j + 1, by omega, by go_num, by go_num, hbel.out.drew.trans (HB1.out.mono hbel.out.size)⟩
        case measure => simp [intOf]; omega
    · obtain rfl : j = n := by omega
      go_wp2_with fail
      go_ret
      exact ⟨rfl, hbel.out⟩

theorem own_go {w w' : World} {B n : Nat} {v : Value} {vs : List Value} (h : w.ownsRow B 9 1 v n vs) (hb : Below w.heap.size w w') : w'.ownsRow B 9 1 v n vs :=
  h.kept (row := none) ⟨hb.os, hb.tape, hb.output, hb.size, fun k hk _ => hb.block k hk⟩ (by
    cases hv : v.ownBlock with
    | none => exact .inl rfl
    | some k => exact .inr (by simp))

theorem marks_set (n k j : Nat) (h : j < n) (vs : List Value) (hl : vs.length = n) : (strv (marks j k) ++ vs.drop j).set j (.string (mark (k + j))) = strv (marks (j + 1) k) ++ vs.drop (j + 1) := by
  have h1 : (strv (marks j k)).length = j := by simp [strv, marks]
  rw [List.set_append_right _ _ (by omega), h1, Nat.sub_self, List.drop_eq_getElem_cons (by omega), List.set_cons_zero]
  simp [strv, marks, List.range_succ]

set_option maxHeartbeats 1600000 in
set_option maxRecDepth 100000 in
theorem markStringS_any (A : Option Addr) (c n k B : Nat) (vs : List Value) (w : World) (h0 : 0 < k) (hn : n ≤ 1000000) (hk : k ≤ 1000000) (hA : w.ownsRow B 9 1 (.slice A n c) n vs) :
    Calls Tryz.prog 44 #[.slice A n c, .int .i64 k] w fun e w' => e = .returned (.int .i64 (k + n : Nat)) ∧ Below B w w' ∧ w'.ownsRow B 9 1 (.slice A n c) n (strv (marks n k)) := by
  have HM : Hid (∀ (j : Nat) (W : World), j < n → Calls Tryz.prog 77 #[.int .i64 ((k + j : Nat) : Int)] W fun e w' => e = .returned (.string (mark (k + j))) ∧ Below W.heap.size W w') := fun j W h => markText_any (k + j) (by omega) (by omega) W
  have hlen : vs.length = n := by have := own_len hA; omega
  have HST : Hid (∀ j, j < n → (strv (marks j k) ++ vs.drop j).set j (.string (mark (k + j))) = strv (marks (j + 1) k) ++ vs.drop (j + 1)) := fun j h => marks_set n k j h vs hlen
  have H0 := Lib.hid hA
  have HZ : Hid (strv (marks n k) ++ vs.drop n = strv (marks n k)) := by show _ = _; rw [List.drop_of_length_le (by omega), List.append_nil]
  have HZ0 : Hid (strv (marks 0 k) ++ vs.drop 0 = vs) := by show _ = _; simp [strv, marks]
  have HAT : Hid (∀ j, j < n → ∃ x, (strv (marks j k) ++ vs.drop j)[j]? = some x) := fun j h => ⟨_, List.getElem?_eq_getElem (by simp [strv, marks]; omega)⟩
  clear hA
  go_enter Tryz.func44, Tryz.ntmps44
  go_wp2_with fail
  go_loopw [1, 5] (fun lv iv wr => ∃ j : Nat, j ≤ n ∧ lv = .int .i64 ((k + j : Nat) : Int) ∧ iv = .int .i64 j ∧ Hid (wr.ownsRow B 9 1 (.slice A n c) n (strv (marks j k) ++ vs.drop j)) ∧ Hid (Below B w wr)) (fun _ iv _ => n - (intOf iv).toNat)
  case atStart => exact ⟨0, Nat.zero_le _, rfl, rfl, by show World.ownsRow _ _ _ _ _ _ _; rw [HZ0.out]; exact H0.out, Below.refl _ _⟩
  case round =>
    obtain ⟨j, hj, rfl, rfl, hown, hbel⟩ := hrel
    by_cases hlt : j < n
    · have HMj : Hid (∀ W : World, Calls Tryz.prog 77 #[.int .i64 ((k : Int) + (j : Int))] W fun e w' => e = .returned (.string (mark (k + j))) ∧ Below W.heap.size W w') := fun W => HM.out j W hlt
      have HSj := Lib.hid (HST.out j hlt)
      obtain ⟨x, hx⟩ := HAT.out j hlt
      generalize mark (k + j) = s at HSj HMj
      obtain ⟨g, rfl, p1, p0, p3, p4, -⟩ := own_cells hown.out (by omega)
      go_wp2_with fail
      refine (HMj.out wr).mono ?_
      rintro e w1 ⟨rfl, hb⟩
      have hown1 := own_go hown.out hb
      obtain ⟨g', e9, -, p2, -, -, p5⟩ := own_cells hown1 (by omega)
      injection e9 with e9
      injection e9 with e9
      subst e9
      have e2 := p5 j x hx
      have e3 := hown1.frozenAt j
      have hst := (hown1.stored j (.string s)).1
      rw [HSj.out] at hst
      have HST2 := Lib.hid hst
      have HB1 := Lib.hid (hbel.out.trans (hb.mono (by omega)))
      clear hb hown1 hst p5 hx
      go_wp2_with fail
      go_roundw
      case rel => exact ⟨j + 1, by omega, by go_num, by go_num, HST2.out, HB1.out.setCell p1 _⟩
      case measure => simp [intOf]; omega
    · obtain rfl : j = n := by omega
      have HF := hown.out
      rw [HZ.out] at HF
      have HF2 := Lib.hid HF
      clear HF
      go_wp2_with fail
      go_ret
      exact ⟨rfl, hbel.out, HF2.out⟩

end Go.Proofs.YtopmkddmllmecaaGreatDoor
