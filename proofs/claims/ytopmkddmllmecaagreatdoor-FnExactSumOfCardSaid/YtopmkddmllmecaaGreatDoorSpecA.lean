/- The walks of the model's small functions on texts. The walks of the model's small functions on texts, more. The walks of the model's functions on trees that only read. The walks of the model's functions on terms: the size. -/
import Derived.Test.YtopmkddmllmecaaGreatDoorProg
import Derived.WalkKit
import Derived.WalkSpells
import Derived.WalkLawsBesides
import Derived.Deep.QuietTactic
import Derived.BigQuiet
import Derived.Lib.Hide
import Derived.Test.YtopmkddmllmecaaGreatDoorMem
/-! The walks of the model's small functions on texts. -/
namespace Go.Proofs.YtopmkddmllmecaaGreatDoor
open Go.RowKit Rt

theorem atomB_int (c : UInt8) : isAtomB c = (decide (97 ≤ (c.toNat : Int)) && decide ((c.toNat : Int) ≤ 122) || decide (48 ≤ (c.toNat : Int)) && decide ((c.toNat : Int) ≤ 57)) := by
  unfold isAtomB
  rw [Bool.eq_iff_iff]
  simp [UInt8.le_iff_toNat_le]
  omega

theorem lowB_int (c : UInt8) : isLow c = (decide (97 ≤ (c.toNat : Int)) && decide ((c.toNat : Int) ≤ 122)) := by
  unfold isLow
  rw [Bool.eq_iff_iff]
  simp [UInt8.le_iff_toNat_le]
  omega

theorem digB_int (c : UInt8) : isDig c = (decide (48 ≤ (c.toNat : Int)) && decide ((c.toNat : Int) ≤ 57)) := by
  unfold isDig
  rw [Bool.eq_iff_iff]
  simp [UInt8.le_iff_toNat_le]
  omega

theorem ret_bool {a b : Bool} (h : a = b) : Ending.returned (.bool a) = .returned (.bool b) := by rw [h]
theorem ret_int {k : IntKind} {a b : Int} (h : a = b) : Ending.returned (.int k a) = .returned (.int k b) := by rw [h]

set_option maxHeartbeats 400000 in
theorem l1Byte_any (c : UInt8) (w : World) : Calls Tryz.prog 141 #[.int .u8 c.toNat] w fun e w' => e = .returned (.bool (isAtomB c)) ∧ w = w' := by
  go_enter Tryz.func141, Tryz.ntmps141
  go_wp2
  all_goals
    go_ret
    refine ⟨ret_bool ?_, rfl⟩
    rw [atomB_int]
    rw [Bool.eq_iff_iff]; simp; omega

set_option maxHeartbeats 400000 in
theorem l6In_yes (n a b : Int) (w : World) (h1 : a ≤ n) (h2 : n ≤ b) : Calls Tryz.prog 67 #[.int .i64 n, .int .i64 a, .int .i64 b] w fun e w' => e = .returned (.bool true) ∧ w = w' := by
  go_enter Tryz.func67, Tryz.ntmps67
  go_wp2
  go_ret
  exact ⟨rfl, rfl⟩

set_option maxHeartbeats 400000 in
theorem l6In_no (n a b : Int) (w : World) (h : n < a ∨ b < n) : Calls Tryz.prog 67 #[.int .i64 n, .int .i64 a, .int .i64 b] w fun e w' => e = .returned (.bool false) ∧ w = w' := by
  by_cases h1 : a ≤ n
  · have h2 : b < n := by omega
    clear h
    go_enter Tryz.func67, Tryz.ntmps67
    go_wp2
    go_ret
    exact ⟨ret_bool (by simp; try omega), rfl⟩
  · have h2 : n < a := by omega
    clear h h1
    go_enter Tryz.func67, Tryz.ntmps67
    go_wp2
    go_ret
    exact ⟨rfl, rfl⟩


/-- The digits of a text from its second byte to k. -/
def digsTo (s : ByteArray) (k : Nat) : Bool := ((s.data.toList.take k).drop 1).all isDig

theorem digsTo_succ (s : ByteArray) (k : Nat) (h1 : 1 ≤ k) (h : k < s.size) : digsTo s (k + 1) = (digsTo s k && isDig s[k]) := by
  unfold digsTo
  have hl : k < s.data.toList.length := by simpa using h
  rw [List.take_succ_eq_append_getElem hl, List.drop_append]
  rw [show (1 - (List.take k s.data.toList).length) = 0 by simp; omega]
  simp [List.all_append]
  rfl

theorem digsTo_one (s : ByteArray) : digsTo s 1 = true := by
  unfold digsTo
  rw [List.drop_eq_nil_of_le (by simp; omega)]
  rfl

theorem digsTo_no (s : ByteArray) (k : Nat) (h1 : 1 ≤ k) (h : k < s.size) (hd : isDig s[k] = false) : digsTo s s.size = false := by
  unfold digsTo
  rw [List.take_of_length_le (by simp), List.all_eq_false]
  refine ⟨s[k], ?_, by simp [hd]⟩
  rw [List.mem_drop_iff_getElem]
  exact ⟨k - 1, by simp; omega, by simp [show 1 + (k - 1) = k by omega]; rfl⟩

theorem name_of (s : ByteArray) (h1 : 1 ≤ s.size) : isName s.data.toList = (decide (s.size ≤ 3) && isLow s[0] && digsTo s s.size) := by
  unfold digsTo
  rw [List.take_of_length_le (by simp)]
  obtain ⟨⟨l⟩⟩ := s
  cases l with
  | nil => simp [ByteArray.size] at h1
  | cons c r =>
    simp only [ByteArray.size, List.size_toArray, List.length_cons, isName, List.drop_succ_cons, List.drop_zero]
    have : (decide (r.length + 1 ≤ 3)) = decide (r.length ≤ 2) := by rw [decide_eq_decide]; omega
    rw [this]
    show (isLow c && decide (r.length ≤ 2) && r.all isDig) = (decide (r.length ≤ 2) && isLow c && r.all isDig)
    cases isLow c <;> cases decide (r.length ≤ 2) <;> rfl

theorem name_nil (s : ByteArray) (h : s.size < 1) : isName s.data.toList = false := by
  obtain ⟨⟨l⟩⟩ := s
  cases l with
  | nil => rfl
  | cons c r => simp [ByteArray.size] at h

set_option maxHeartbeats 400000 in
theorem l1Name_any (s : ByteArray) (w : World) (hm : s.size ≤ maxLen) : Calls Tryz.prog 55 #[.string s] w fun e w' => e = .returned (.bool (isName s.data.toList)) ∧ w = w' := by
  unfold maxLen at hm
  by_cases h : 1 ≤ s.size ∧ s.size ≤ 3
  · obtain ⟨h1, h3⟩ := h
    have hz : (0 : Nat) < s.size := by omega
    by_cases hl : isLow s[0] = true
    · have hl' := hl
      rw [lowB_int, Bool.and_eq_true, decide_eq_true_eq, decide_eq_true_eq] at hl'
      obtain ⟨a1, a2⟩ := hl'
      have HN := Lib.hid (name_of s h1)
      have HL := Lib.hid hl
      clear hl
      go_enter Tryz.func55, Tryz.ntmps55
      go_wp2_with (go_at_call 67; refine (l6In_yes _ _ _ _ (by omega) (by omega)).mono ?_; rintro e w' ⟨rfl, rfl⟩)
      go_loop [3] (fun i => ∃ k : Nat, 1 ≤ k ∧ k ≤ s.size ∧ i = .int .i64 k ∧ Hid (digsTo s k = true)) (fun i => s.size - (intOf i).toNat)
      case atStart => exact ⟨1, by omega, by omega, rfl, digsTo_one s⟩
      case round =>
        obtain ⟨k, hk1, hk2, rfl, hd⟩ := hrel
        by_cases hlt : k < s.size
        · have HS := Lib.hid (digsTo_succ s k hk1 hlt)
          have HD := Lib.hid (digB_int s[k])
          go_wp2
          all_goals first
            | (go_round
               case rel => exact ⟨k + 1, by omega, by omega, by go_num, by show _ = _; rw [HS.out, hd.out, HD.out]; simp; omega⟩
               case measure => simp [intOf]; omega)
            | (go_ret
               refine ⟨ret_bool ?_, rfl⟩
               rw [HN.out, digsTo_no s k hk1 hlt (by rw [HD.out, Bool.eq_false_iff]; simp; omega)]
               simp)
        · go_wp2
          go_ret
          refine ⟨ret_bool ?_, rfl⟩
          have e : s.size = k := by omega
          have hd' : digsTo s s.size = true := by rw [e]; exact hd.out
          rw [HN.out, HL.out, hd']
          simp; omega
    · have hl' : isLow s[0] = false := by simpa using hl
      have hl2 := hl'
      rw [lowB_int, Bool.and_eq_false_iff, decide_eq_false_iff_not, decide_eq_false_iff_not] at hl2
      have hl3 : ((s[0].toNat : Int) < 97) ∨ (122 < (s[0].toNat : Int)) := by omega
      have HN := Lib.hid (name_of s h1)
      have HL := Lib.hid hl'
      clear hl hl' hl2
      rcases hl3 with hl3 | hl3
      all_goals
        go_enter Tryz.func55, Tryz.ntmps55
        go_wp2_with (go_at_call 67; refine (l6In_yes _ _ _ _ (by omega) (by omega)).mono ?_; rintro e w' ⟨rfl, rfl⟩)
        all_goals (go_ret; exact ⟨ret_bool (by rw [HN.out, HL.out]; simp), rfl⟩)
  · have h' : (s.size : Int) < 1 ∨ 3 < (s.size : Int) := by omega
    have HN : Hid (isName s.data.toList = false) := by
      by_cases h1 : 1 ≤ s.size
      · show _ = _
        rw [name_of s h1]
        simp; omega
      · exact name_nil s (by omega)
    clear h
    go_enter Tryz.func55, Tryz.ntmps55
    go_wp2_with (go_at_call 67; refine (l6In_no _ _ _ _ (by omega)).mono ?_; rintro e w' ⟨rfl, rfl⟩)
    go_ret
    exact ⟨ret_bool (by rw [HN.out]), rfl⟩

end Go.Proofs.YtopmkddmllmecaaGreatDoor

/-! The walks of the model's small functions on texts, more. -/
namespace Go.Proofs.YtopmkddmllmecaaGreatDoor
open Go.RowKit Rt

/-- An index as the model tells it. -/
def idxI (l : B) : Int := match index? l with | some n => n | none => -1

def numTo (s : ByteArray) (k : Nat) : Nat := (s.data.toList.take k).foldl (fun n c => 10 * n + (c.toNat - 48)) 0

theorem numTo_succ (s : ByteArray) (k : Nat) (h : k < s.size) : numTo s (k + 1) = 10 * numTo s k + (s[k].toNat - 48) := by
  unfold numTo
  have hl : k < s.data.toList.length := by simpa using h
  rw [List.take_succ_eq_append_getElem hl, List.foldl_append]
  rfl

def allTo (s : ByteArray) (k : Nat) : Bool := (s.data.toList.take k).all isDig

theorem allTo_succ (s : ByteArray) (k : Nat) (h : k < s.size) : allTo s (k + 1) = (allTo s k && isDig s[k]) := by
  unfold allTo
  have hl : k < s.data.toList.length := by simpa using h
  rw [List.take_succ_eq_append_getElem hl, List.all_append]
  simp
  rfl

theorem allTo_no (s : ByteArray) (k : Nat) (h : k < s.size) (hd : isDig s[k] = false) : allTo s s.size = false := by
  unfold allTo
  rw [List.take_of_length_le (by simp), List.all_eq_false]
  refine ⟨s[k], ?_, by simp [hd]⟩
  exact Array.getElem_mem_toList h

theorem idxI_of (s : ByteArray) (h1 : 1 ≤ s.size) (h2 : s.size ≤ 2) (h0 : ¬ (s.size = 2 ∧ s[0].toNat = 48)) : idxI s.data.toList = if allTo s s.size then (numTo s s.size : Int) else -1 := by
  unfold allTo numTo idxI
  rw [List.take_of_length_le (by simp)]
  obtain ⟨⟨l⟩⟩ := s
  match l with
  | [] => simp [ByteArray.size] at h1
  | [c] =>
    simp only [index?, List.all_cons, List.all_nil, Bool.and_true, List.foldl_cons, List.foldl_nil]
    cases isDig c <;> simp
  | [c, d] =>
    have h3 : c ≠ 48 := by
      intro e
      refine h0 ⟨rfl, ?_⟩
      show c.toNat = 48
      rw [e]; rfl
    simp only [index?, List.all_cons, List.all_nil, Bool.and_true, List.foldl_cons, List.foldl_nil]
    cases isDig c <;> cases isDig d <;> simp [h3]
  | _ :: _ :: _ :: _ => simp [ByteArray.size] at h2

theorem idxI_zero (s : ByteArray) (h2 : s.size = 2) (h0 : s[0].toNat = 48) : idxI s.data.toList = -1 := by
  obtain ⟨⟨l⟩⟩ := s
  match l with
  | [c, d] =>
    have h3 : c = 48 := UInt8.toNat.inj (show c.toNat = 48 from h0)
    simp [idxI, index?, h3]
  | [] => simp [ByteArray.size] at h2
  | [_] => simp [ByteArray.size] at h2
  | _ :: _ :: _ :: _ => simp [ByteArray.size] at h2

theorem idxI_out (s : ByteArray) (h : s.size < 1 ∨ 2 < s.size) : idxI s.data.toList = -1 := by
  obtain ⟨⟨l⟩⟩ := s
  match l with
  | [] => rfl
  | [_] => simp [ByteArray.size] at h
  | [_, _] => simp [ByteArray.size] at h
  | _ :: _ :: _ :: _ => rfl

set_option maxHeartbeats 400000 in
theorem l1Index_in (s : ByteArray) (w : World) (h1 : 1 ≤ s.size) (h2 : s.size ≤ 2) (h0 : (s.size : Int) < 2 ∨ (2 ≤ (s.size : Int) ∧ ((s[0].toNat : Int) < 48 ∨ 48 < (s[0].toNat : Int)))) :
    Calls Tryz.prog 125 #[.string s] w fun e w' => e = .returned (.int .i64 (idxI s.data.toList)) ∧ w = w' := by
  have HI := Lib.hid (idxI_of s h1 h2 (by omega))
  have hz : (0 : Nat) < s.size := by omega
  go_enter Tryz.func125, Tryz.ntmps125
  have hq : ((s.size : Int) == 2) = false ∨ (((s.size : Int) == 2) = true ∧ ((s[0].toNat : Int) == 48) = false) := by
    rcases h0 with h0 | ⟨h0, h00⟩
    · exact .inl (by simp; omega)
    · exact .inr ⟨by simp; omega, by simp; omega⟩
  clear h0
  rcases hq with hq | ⟨hq, hq0⟩
  all_goals
    go_wp2_with (go_at_call 67; refine (l6In_yes _ _ _ _ (by omega) (by omega)).mono ?_; rintro e w' ⟨rfl, rfl⟩)
    go_loop [3, 4] (fun n i => ∃ k : Nat, k ≤ s.size ∧ i = .int .i64 k ∧ n = .int .i64 (numTo s k) ∧ Hid (allTo s k = true) ∧ numTo s k < 10 ^ k) (fun _ i => s.size - (intOf i).toNat)
    case atStart => exact ⟨0, by omega, rfl, rfl, rfl, by simp [numTo]⟩
    case round =>
      obtain ⟨k, hk2, rfl, rfl, hd, hn⟩ := hrel
      have hn2 : numTo s k < 100 := Nat.lt_of_lt_of_le hn (Nat.pow_le_pow_right (by omega) (show k ≤ 2 by omega))
      by_cases hlt : k < s.size
      · have HS := Lib.hid (allTo_succ s k hlt)
        have HU := Lib.hid (numTo_succ s k hlt)
        have HD := Lib.hid (digB_int s[k])
        have HP := Lib.hid hn
        clear hn
        go_wp2
        all_goals first
          | (go_round
             case rel => exact ⟨k + 1, by omega, by go_num, by rw [HU.out]; go_num, by show _ = _; rw [HS.out, hd.out, HD.out]; simp; omega, by rw [HU.out, Nat.pow_succ]; have := HP.out; omega⟩
             case measure => simp [intOf]; omega)
          | (go_ret
             refine ⟨ret_int ?_, rfl⟩
             rw [HI.out, allTo_no s k hlt (by rw [HD.out, Bool.eq_false_iff]; simp; omega)]
             simp)
      · have HP := Lib.hid hn
        clear hn
        go_wp2
        go_ret
        refine ⟨ret_int ?_, rfl⟩
        have e : s.size = k := by omega
        have hd' : allTo s s.size = true := by rw [e]; exact hd.out
        rw [HI.out, hd', if_pos rfl, e]

set_option maxHeartbeats 400000 in
theorem l1Index_any (s : ByteArray) (w : World) (hm : s.size ≤ maxLen) :
    Calls Tryz.prog 125 #[.string s] w fun e w' => e = .returned (.int .i64 (idxI s.data.toList)) ∧ w = w' := by
  unfold maxLen at hm
  by_cases h : 1 ≤ s.size ∧ s.size ≤ 2
  · obtain ⟨h1, h2⟩ := h
    by_cases h3 : s.size = 2 ∧ s[0].toNat = 48
    · have HI := Lib.hid (idxI_zero s h3.1 h3.2)
      have hq : ((s.size : Int) == 2) = true := by simp; omega
      have hq0 : ((s[0].toNat : Int) == 48) = true := by simp; omega
      have hz : (0 : Nat) < s.size := by omega
      clear h3
      go_enter Tryz.func125, Tryz.ntmps125
      go_wp2_with (go_at_call 67; refine (l6In_yes _ _ _ _ (by omega) (by omega)).mono ?_; rintro e w' ⟨rfl, rfl⟩)
      go_ret
      exact ⟨ret_int (by rw [HI.out]), rfl⟩
    · exact l1Index_in s w h1 h2 (by omega)
  · have HI := Lib.hid (idxI_out s (by omega))
    have h' : (s.size : Int) < 1 ∨ 2 < (s.size : Int) := by omega
    clear h
    go_enter Tryz.func125, Tryz.ntmps125
    go_wp2_with (go_at_call 67; refine (l6In_no _ _ _ _ (by omega)).mono ?_; rintro e w' ⟨rfl, rfl⟩)
    go_ret
    exact ⟨ret_int (by rw [HI.out]), rfl⟩

/-- The two texts from k on. -/
theorem lt_at (a b : ByteArray) (k : Nat) (ha : k < a.size) (hb : k < b.size) : ltB (a.data.toList.drop k) (b.data.toList.drop k) =
    if ((a[k].toNat : Int) == (b[k].toNat : Int)) then ltB (a.data.toList.drop (k + 1)) (b.data.toList.drop (k + 1)) else decide ((a[k].toNat : Int) < (b[k].toNat : Int)) := by
  have hla : k < a.data.toList.length := by simpa using ha
  have hlb : k < b.data.toList.length := by simpa using hb
  rw [List.drop_eq_getElem_cons hla, List.drop_eq_getElem_cons hlb]
  show ltB (a[k] :: _) (b[k] :: _) = _
  simp only [ltB, UInt8.lt_iff_toNat_lt]
  by_cases h1 : a[k].toNat < b[k].toNat
  · rw [if_pos h1, if_neg (by simp; omega)]
    simp; omega
  · rw [if_neg h1]
    by_cases h2 : b[k].toNat < a[k].toNat
    · rw [if_pos h2, if_neg (by simp; omega)]
      simp; omega
    · rw [if_neg h2, if_pos (by simp; omega)]

theorem lt_end (a b : ByteArray) (k : Nat) (ha : k ≤ a.size) (hb : k ≤ b.size) (h : k = a.size ∨ k = b.size) : ltB (a.data.toList.drop k) (b.data.toList.drop k) = decide (a.size < b.size) := by
  by_cases h1 : k = b.size
  · have e : b.data.toList.drop k = [] := List.drop_eq_nil_of_le (by simp; omega)
    rw [e]
    have : ∀ l, ltB l [] = false := fun l => by cases l <;> rfl
    rw [this]
    simp; omega
  · have h2 : k = a.size := by omega
    have e : a.data.toList.drop k = [] := List.drop_eq_nil_of_le (by simp; omega)
    rw [e]
    have hlb : k < b.data.toList.length := by simp; omega
    rw [List.drop_eq_getElem_cons hlb]
    simp [ltB]; omega

/-- The same world but for draws. -/
def Drew (w w' : World) : Prop := ∃ n, w' = w.drewN n

theorem Drew.refl (w : World) : Drew w w := ⟨0, rfl⟩
theorem Drew.more {w a : World} (h : Drew w a) (m : Nat) : Drew w (a.drewN m) := by
  obtain ⟨n, rfl⟩ := h
  exact ⟨n + m, by rw [World.drewN_drewN]⟩
theorem Drew.below {w a : World} (h : Drew w a) (B : Nat) : Below B w a := by
  obtain ⟨n, rfl⟩ := h
  exact ⟨rfl, rfl, rfl, Nat.le_refl _, fun _ _ => rfl⟩

set_option maxHeartbeats 400000 in
theorem l1Less_any (a b : ByteArray) (w : World) (ha : a.size ≤ maxLen) (hb : b.size ≤ maxLen) :
    Calls Tryz.prog 78 #[.string a, .string b] w fun e w' => e = .returned (.bool (ltB a.data.toList b.data.toList)) ∧ Drew w w' := by
  unfold maxLen at ha hb
  go_enter Tryz.func78, Tryz.ntmps78
  go_wp2
  go_loopw [5] (fun i wr => ∃ k : Nat, k ≤ a.size ∧ k ≤ b.size ∧ i = .int .i64 k ∧ Hid (ltB a.data.toList b.data.toList = ltB (a.data.toList.drop k) (b.data.toList.drop k)) ∧ ∃ n, wr = w.drewN n) (fun i _ => a.size - (intOf i).toNat)
  case atStart => exact ⟨0, by omega, by omega, rfl, rfl, 0, rfl⟩
  case round =>
    obtain ⟨k, hk1, hk2, rfl, hd, n, rfl⟩ := hrel
    by_cases h1 : k < a.size
    · by_cases h2 : k < b.size
      · have HL := Lib.hid (lt_at a b k h1 h2)
        go_wp2
        go_quiet (fail)
        go_wp2
        · have hne : ((a[k].toNat : Int) != (b[k].toNat : Int)) = true := by assumption
          go_quiet (fail)
          go_wp2
          go_ret
          refine ⟨ret_bool ?_, Drew.more (Drew.more ⟨_, rfl⟩ _) _⟩
          rw [bne_iff_ne] at hne
          rw [hd.out, HL.out, if_neg (by simp; omega)]
          rw [decide_eq_decide]; omega
        · have hne : ((a[k].toNat : Int) != (b[k].toNat : Int)) = false := by assumption
          go_roundw
          case rel =>
            refine ⟨k + 1, by omega, by omega, by go_num, ?_, _, rfl⟩
            show _ = _
            rw [bne_eq_false_iff_eq] at hne
            rw [hd.out, HL.out, if_pos (by simp; omega)]
          case measure => simp [intOf]; omega
      · have HE := Lib.hid (lt_end a b k hk1 hk2 (by omega))
        go_wp2
        go_ret
        exact ⟨ret_bool (by rw [hd.out, HE.out]), n, rfl⟩
    · have HE := Lib.hid (lt_end a b k hk1 hk2 (by omega))
      go_wp2
      go_ret
      exact ⟨ret_bool (by rw [hd.out, HE.out]), n, rfl⟩

end Go.Proofs.YtopmkddmllmecaaGreatDoor

/-! The walks of the model's functions on trees that only read. -/
namespace Go.Proofs.YtopmkddmllmecaaGreatDoor
open Go.RowKit Rt

theorem cell_alloc {w : World} {b j : Nat} {x : Value} (h : w.cell? ⟨b, j, none⟩ = some x) : ∀ o, (w.alloc o).cell? ⟨b, j, none⟩ = some x := fun o => by
  rw [World.cell?_alloc_past _ _ _ (World.block_lt_of_cell? w _ h)]; exact h

/-- The first atom of what has parts. -/
def headT : Tree → B
  | .list (.atom a :: _) => a
  | _ => []

/-- A struct of two cells, laid by a call. -/
theorem two_cells (w : World) (x y : Value) (t : TypeId) : (w.alloc (.cells #[x, y] t)).cell? ⟨w.heap.size, 0, none⟩ = some x ∧ (w.alloc (.cells #[x, y] t)).cell? ⟨w.heap.size, 1, none⟩ = some y := by
  constructor <;> (rw [World.cell?_alloc_at _ _ _ _ rfl]; rfl)

theorem below_one (w : World) (o : Obj) : Below w.heap.size w (w.alloc o) := (Below.refl _ _).alloc (Nat.le_refl _) _

theorem st_eq (s : B) : st s = .string ⟨s.toArray⟩ := rfl

set_option maxHeartbeats 400000 in
theorem l1Head_any (t : Tree) (v : Value) (w : World) (hr : RepS w t v) :
    Calls Tryz.prog 90 #[v] w fun e w' => e = .returned (st (headT t)) ∧ Below w.heap.size w w' := by
  cases t with
  | atom s =>
    rw [RepS] at hr
    subst hr
    rw [st_eq]
    cases s with
    | nil =>
      go_enter Tryz.func90, Tryz.ntmps90
      go_wp2
      go_ret
      exact ⟨rfl, below_one _ _⟩
    | cons c s =>
      go_enter Tryz.func90, Tryz.ntmps90
      go_wp2
      go_ret
      exact ⟨rfl, below_one _ _⟩
  | list l =>
    rw [RepS] at hr
    obtain ⟨b, c, xs, rfl, hl1, hl2, hc, hf⟩ := hr
    unfold maxLen at hl2
    rw [st_eq]
    cases l with
    | nil =>
      go_enter Tryz.func90, Tryz.ntmps90
      go_wp2
      go_ret
      exact ⟨rfl, below_one _ _⟩
    | cons t l =>
      rw [RepF] at hf
      obtain ⟨x, y, r, rfl, ht, _⟩ := hf
      have hx := hc 0 x rfl
      have hb := World.block_lt_of_cell? w _ hx
      have hx' : ∀ o, (w.alloc o).cell? ⟨b, 0, none⟩ = some x := fun o => by rw [World.cell?_alloc_past _ _ _ hb]; exact hx
      clear hc hx
      have he : x = st (headT (.list (t :: l))) := by
        cases t with
        | atom a => rw [RepS] at ht; simp at ht; exact ht.1
        | list m => rw [RepS] at ht; obtain ⟨_, _, _, h, _⟩ := ht; simp at h; exact h.1
      subst he
      clear ht
      go_enter Tryz.func90, Tryz.ntmps90
      go_wp2
      go_ret
      exact ⟨rfl, below_one _ _⟩


theorem textL_snoc : ∀ (l : List Tree) (t : Tree), l ≠ [] → textL (l ++ [t]) = textL l ++ 32 :: textT t
  | [], _, h => absurd rfl h
  | [u], t, _ => by simp [textL]
  | u :: v :: l, t, _ => by
    have := textL_snoc (v :: l) t (by simp)
    rw [List.cons_append, List.cons_append, textL, ← List.cons_append, this, textL]
    simp

theorem textL_take (l : List Tree) (k : Nat) (t : Tree) (h : l[k]? = some t) : textL (l.take (k + 1)) = if k = 0 then textT t else textL (l.take k) ++ 32 :: textT t := by
  have hk : k < l.length := by
    rcases Nat.lt_or_ge k l.length with h1 | h1
    · exact h1
    · rw [List.getElem?_eq_none h1] at h; cases h
  rw [List.take_add_one, h]
  by_cases h0 : k = 0
  · subst h0; simp [textL]
  · rw [if_neg h0]
    exact textL_snoc _ _ (by
      intro e
      have := congrArg List.length e
      simp only [List.length_take, List.length_nil] at this
      omega)

/-- Pieces of a text are no longer than it. -/
theorem textL_len : ∀ (l : List Tree) (k : Nat) (t : Tree), l[k]? = some t → (textL (l.take k)).length + (textT t).length ≤ (textL l).length
  | [], k, t, h => by simp at h
  | [u], 0, t, h => by simp at h; subst h; simp [textL]
  | [u], k + 1, t, h => by simp at h
  | u :: v :: l, 0, t, h => by simp at h; subst h; simp [textL]
  | u :: v :: l, 1, t, h => by
    have := textL_len (v :: l) 0 t (by simpa using h)
    simp [textL] at this ⊢
    omega
  | u :: v :: l, k + 2, t, h => by
    have := textL_len (v :: l) (k + 1) t (by simpa using h)
    simp only [List.take_succ_cons, textL, List.length_append, List.length_cons] at this ⊢
    omega

set_option maxHeartbeats 800000 in
theorem l1Text_any (n : Nat) : ∀ (t : Tree) (v : Value) (w : World), nodes t ≤ n → RepS w t v → wfT t = true → (textT t).length ≤ 1000000 →
    Calls Tryz.prog 66 #[v] w fun e w' => e = .returned (st (textT t)) ∧ Below w.heap.size w w' := by
  induction n with
  | zero => intro t v w h; have := nodes_pos t; omega
  | succ n ih =>
    intro t v w hn hr hwf hlen
    cases t with
    | atom s =>
      rw [RepS] at hr
      subst hr
      rw [st_eq]
      cases s with
      | nil => simp [wfT] at hwf
      | cons c s =>
        clear hwf hn ih hlen
        go_enter Tryz.func66, Tryz.ntmps66
        go_wp2_with fail
        go_ret
        exact ⟨rfl, below_one _ _⟩
    | list l =>
      rw [RepS] at hr
      obtain ⟨b, c, xs, rfl, hl1, hl2, hc, hf⟩ := hr
      unfold maxLen at hl2
      rw [st_eq]
      rw [nodes] at hn
      have IH := Lib.hid ih
      clear ih
      have HL := Lib.hid hlen
      have HC := Lib.hid hc
      have HF := Lib.hid hf
      have HW := Lib.hid hwf
      clear hlen hc hf hwf
      go_enter Tryz.func66, Tryz.ntmps66
      go_wp2_with fail
      obtain ⟨hx1, hx2⟩ := two_cells w (.string ⟨#[]⟩) (.slice (some ⟨b, 0, none⟩) l.length c) 84
      have hbw := below_one w (.cells #[.string ⟨#[]⟩, .slice (some ⟨b, 0, none⟩) l.length c] 84)
      have hsz : w.heap.size + 1 ≤ (w.alloc (.cells #[.string ⟨#[]⟩, .slice (some ⟨b, 0, none⟩) l.length c] 84)).heap.size := by simp
      generalize w.alloc (.cells #[.string ⟨#[]⟩, .slice (some ⟨b, 0, none⟩) l.length c] 84) = W at *
      go_loopw [3, 4] (fun o i wr => ∃ k : Nat, k ≤ l.length ∧ i = .int .i64 k ∧ o = st (40 :: textL (l.take k)) ∧ Below (w.heap.size + 1) W wr) (fun _ i _ => l.length - (intOf i).toNat)
      case atStart => exact ⟨0, by omega, rfl, by rw [List.take_zero]; rfl, Below.refl _ _⟩
      case round =>
        obtain ⟨k, hk, rfl, rfl, hB⟩ := hrel
        have hy2 : wr.cell? ⟨w.heap.size, 1, none⟩ = some (.slice (some ⟨b, 0, none⟩) l.length c) := by rw [hB.cell (by simp)]; exact hx2
        by_cases hlt : k < l.length
        · obtain ⟨t, ht⟩ : ∃ t, l[k]? = some t := ⟨l[k], List.getElem?_eq_getElem hlt⟩
          obtain ⟨x, y, e1, e2, hrt⟩ := RepF.at l xs k t HF.out ht
          have hK : Keeps w wr := below_keeps (hbw.trans (hB.mono (by omega)))
          have c1 := hK _ _ (HC.out (k * 2) x e1)
          have c2 := hK _ _ (HC.out (k * 2 + 1) y e2)
          have HT := Lib.hid (textL_take l k t ht)
          have HTL := Lib.hid (textL_len l k t ht)
          have HR := Lib.hid (hrt.keep hK)
          have HWF := Lib.hid (wfL_at l k t (by have := HW.out; rw [wfT, Bool.and_eq_true] at this; exact this.2) ht)
          have HN := nodesL_at l k t ht
          have HT0 := Lib.hid ht
          have hs1 : (textL (l.take k)).length ≤ 1000000 := by have := HTL.out; have := HL.out; simp [textT] at this; omega
          have hs2 : (textT t).length ≤ 1000000 := by have := HTL.out; have := HL.out; simp [textT] at this; omega
          clear ht e1 e2 hrt hx1 hx2
          rw [st_eq]
          by_cases h0 : k = 0
          · have hk0 : ¬ (0 < k) := by omega
            have HT2 : Hid (40 :: textL (l.take k) ++ textT t = 40 :: textL (l.take (k + 1))) := by
              show _ = _
              rw [HT.out, if_pos h0, h0]; rfl
            clear h0
            go_wp2_with fail
            refine (IH.out t _ wr (by omega) HR.out HWF.out hs2).mono ?_
            rintro e w2 ⟨rfl, hb2⟩
            rw [st_eq]
            go_wp2_with fail
            go_roundw
            case rel => exact ⟨k + 1, by omega, by go_num, by rw [ByteArray.mk_append_mk, HT2.out]; rfl, hB.trans (hb2.mono (by have := hB.size; omega))⟩
            case measure => simp [intOf]; omega
          · have hk0 : 0 < k := by omega
            have HT2 : Hid (40 :: textL (l.take k) ++ [32] ++ textT t = 40 :: textL (l.take (k + 1))) := by
              show _ = _
              rw [HT.out, if_neg h0]; simp
            clear h0
            go_wp2_with fail
            refine (IH.out t _ wr (by omega) HR.out HWF.out hs2).mono ?_
            rintro e w2 ⟨rfl, hb2⟩
            rw [st_eq]
            go_wp2_with fail
            go_roundw
            case rel => exact ⟨k + 1, by omega, by go_num, by rw [ByteArray.mk_append_mk, ByteArray.mk_append_mk, HT2.out]; rfl, hB.trans (hb2.mono (by have := hB.size; omega))⟩
            case measure => simp [intOf]; omega
        · have e : l.take k = l := List.take_of_length_le (by omega)
          have hs1 : (textL (l.take k)).length ≤ 1000000 := by rw [e]; have := HL.out; simp [textT] at this; omega
          have HE := Lib.hid e
          clear e hx1 hx2
          rw [st_eq]
          go_wp2_with fail
          go_ret
          refine ⟨?_, hbw.trans (hB.mono (by omega))⟩
          rw [HE.out, ByteArray.mk_append_mk]; rfl

end Go.Proofs.YtopmkddmllmecaaGreatDoor

/-! The walks of the model's functions on terms: the size. -/
namespace Go.Proofs.YtopmkddmllmecaaGreatDoor
open Go.RowKit Rt

theorem repF_cons {w : World} {t : Tree} {l : List Tree} {xs : List Value} (h : RepF w (t :: l) xs) : ∃ x y r, xs = x :: y :: r ∧ RepS w t (.agg #[x, y]) ∧ RepF w l r := by
  rw [RepF] at h; exact h

theorem repF_nil {w : World} {xs : List Value} (h : RepF w [] xs) : xs = [] := by
  rw [RepF] at h; exact h

theorem repS_atom {w : World} {s : B} {x y : Value} (h : RepS w (.atom s) (.agg #[x, y])) : x = st s ∧ y = .slice none 0 0 := by
  rw [RepS] at h
  simp at h; exact h

theorem repS_list {w : World} {l : List Tree} {x y : Value} (h : RepS w (.list l) (.agg #[x, y])) :
    x = st [] ∧ ∃ b c xs, y = .slice (some ⟨b, 0, none⟩) l.length c ∧ l.length ≤ c ∧ c ≤ maxLen ∧ Cells w b xs ∧ RepF w l xs := by
  rw [RepS] at h
  obtain ⟨b, c, xs, hv, h1, h2, h3, h4⟩ := h
  simp at hv
  exact ⟨hv.1, b, c, xs, hv.2, h1, h2, h3, h4⟩

/-- What lies behind a lam. -/
theorem repS_lam {w : World} {t : Term} {v : Value} (h : RepS w (ofTerm (.lam t)) v) :
    ∃ b c y0 x1 y1, v = .agg #[st [], .slice (some ⟨b, 0, none⟩) 2 c] ∧ 2 ≤ c ∧ c ≤ maxLen ∧ w.cell? ⟨b, 0, none⟩ = some (st sLam) ∧ w.cell? ⟨b, 1, none⟩ = some y0 ∧
      w.cell? ⟨b, 2, none⟩ = some x1 ∧ w.cell? ⟨b, 3, none⟩ = some y1 ∧ RepS w (ofTerm t) (.agg #[x1, y1]) := by
  rw [ofTerm, RepS] at h
  obtain ⟨b, c, xs, rfl, h1, h2, hc, hf⟩ := h
  obtain ⟨x0, y0, r, rfl, ha, hf⟩ := repF_cons hf
  obtain ⟨x1, y1, r, rfl, ht, hf⟩ := repF_cons hf
  obtain ⟨rfl, rfl⟩ := repS_atom ha
  exact ⟨b, c, _, x1, y1, rfl, h1, h2, hc 0 _ rfl, hc 1 _ rfl, hc 2 _ rfl, hc 3 _ rfl, ht⟩

/-- What lies behind an app. -/
theorem repS_app {w : World} {t : Term} {l : List Term} {v : Value} (h : RepS w (ofTerm (.app t l)) v) :
    ∃ b c y0 x1 y1 g d ys, v = .agg #[st [], .slice (some ⟨b, 0, none⟩) 3 c] ∧ 3 ≤ c ∧ c ≤ maxLen ∧ w.cell? ⟨b, 0, none⟩ = some (st sApp) ∧ w.cell? ⟨b, 1, none⟩ = some y0 ∧
      w.cell? ⟨b, 2, none⟩ = some x1 ∧ w.cell? ⟨b, 3, none⟩ = some y1 ∧ RepS w (ofTerm t) (.agg #[x1, y1]) ∧
      w.cell? ⟨b, 4, none⟩ = some (st []) ∧ w.cell? ⟨b, 5, none⟩ = some (.slice (some ⟨g, 0, none⟩) (l.length + 1) d) ∧ l.length + 1 ≤ d ∧ d ≤ maxLen ∧
      Cells w g ys ∧ RepF w (.atom sM :: ofTerms l) ys := by
  rw [ofTerm, RepS] at h
  obtain ⟨b, c, xs, rfl, h1, h2, hc, hf⟩ := h
  obtain ⟨x0, y0, r, rfl, ha, hf⟩ := repF_cons hf
  obtain ⟨x1, y1, r, rfl, ht, hf⟩ := repF_cons hf
  obtain ⟨x2, y2, r, rfl, hb, hf⟩ := repF_cons hf
  obtain ⟨rfl, rfl⟩ := repS_atom ha
  obtain ⟨rfl, g, d, ys, rfl, h3, h4, h5, h6⟩ := repS_list hb
  have hl : (ofTerms l).length = l.length := ofTerms_length l
  simp only [List.length_cons, hl] at h3
  refine ⟨b, c, _, x1, y1, g, d, ys, rfl, h1, h2, hc 0 _ rfl, hc 1 _ rfl, hc 2 _ rfl, hc 3 _ rfl, ht, hc 4 _ rfl, ?_, h3, h4, h5, h6⟩
  rw [hc 5 _ rfl]
  simp [hl]

/-- Two worlds: the cells that were there. -/
theorem keep_two {w W : World} {b j : Nat} {x : Value} (hk : Keeps w W) (h : w.cell? ⟨b, j, none⟩ = some x) : W.cell? ⟨b, j, none⟩ = some x := hk _ _ h

set_option maxHeartbeats 800000 in
theorem l1Size_any (n : Nat) : ∀ (t : Term) (v : Value) (w : World), size t ≤ n → n ≤ 1000000 → RepS w (ofTerm t) v →
    Calls Tryz.prog 110 #[v] w fun e w' => e = .returned (.int .i64 (size t)) ∧ Below w.heap.size w w' := by
  induction n with
  | zero => intro t v w h; have := size_pos t; omega
  | succ n ih =>
    intro t v w hn hm hr
    have atom : ∀ s : B, v = .agg #[st s, .slice none 0 0] → (size t : Int) = 1 → Calls Tryz.prog 110 #[v] w fun e w' => e = .returned (.int .i64 (size t)) ∧ Below w.heap.size w w' := by
      intro s hv h1
      rw [h1]
      clear h1 hr ih
      subst hv
      have hrep : ∀ w, RepS w (.atom s) (.agg #[st s, .slice none 0 0]) := fun w => by rw [RepS]
      rw [st_eq] at hrep ⊢
      go_enter Tryz.func110, Tryz.ntmps110
      go_wp2_with fail
      refine (l1Head_any (.atom s) _ _ (hrep _)).mono ?_
      rintro e w2 ⟨rfl, hb2⟩
      rw [st_eq, show headT (.atom s) = [] from rfl]
      go_wp2_with fail
      go_ret
      exact ⟨rfl, (below_one _ _).trans (hb2.mono (by simp))⟩
    cases t with
    | nm s => exact atom s (by rw [ofTerm, RepS] at hr; exact hr) rfl
    | ix k => exact atom (dec k) (by rw [ofTerm, RepS] at hr; exact hr) rfl
    | lam t =>
      clear atom
      have HR := Lib.hid hr
      obtain ⟨b, c, y0, x1, y1, rfl, h1, h2, c0, c1, c2, c3, ht⟩ := repS_lam hr
      have C2 := Lib.hid c2
      have C3 := Lib.hid c3
      have HT := Lib.hid ht
      have IH := Lib.hid ih
      rw [size] at hn
      clear c0 c1 c2 c3 ht hr ih
      unfold maxLen at h2
      have E := st_eq []
      rw [st_eq] at HR ⊢
      go_enter Tryz.func110, Tryz.ntmps110
      go_wp2_with fail
      have hW := below_one w (.cells #[.string ⟨#[]⟩, .slice (some ⟨b, 0, none⟩) 2 c] 84)
      obtain ⟨hx1, hx2⟩ := two_cells w (.string ⟨#[]⟩) (.slice (some ⟨b, 0, none⟩) 2 c) 84
      have hsz : w.heap.size + 1 ≤ (w.alloc (.cells #[.string ⟨#[]⟩, .slice (some ⟨b, 0, none⟩) 2 c] 84)).heap.size := by simp
      generalize w.alloc (.cells #[.string ⟨#[]⟩, .slice (some ⟨b, 0, none⟩) 2 c] 84) = W at *
      have hKW := below_keeps hW
      refine (l1Head_any _ _ _ (HR.out.keep hKW)).mono ?_
      rintro e w2 ⟨rfl, hb2⟩
      rw [st_eq, show headT (ofTerm (.lam t)) = [108, 97, 109] from rfl]
      have hK2 := hKW.trans (below_keeps hb2)
      have hy2 : w2.cell? ⟨w.heap.size, 1, none⟩ = some (.slice (some ⟨b, 0, none⟩) 2 c) := by rw [hb2.cell (by show w.heap.size < _; omega)]; exact hx2
      have c2 := hK2 _ _ C2.out
      have c3 := hK2 _ _ C3.out
      clear hx1 hx2
      go_wp2_with fail
      refine (IH.out t _ w2 (by omega) (by omega) (HT.out.keep hK2)).mono ?_
      rintro e w3 ⟨rfl, hb3⟩
      have hs := size_pos t
      go_wp2_with fail
      go_ret
      refine ⟨ret_int ?_, (hW.trans (hb2.mono (by omega))).trans (hb3.mono (by have := hb2.size; omega))⟩
      rw [size]; omega
    | app t l =>
      clear atom
      have HR := Lib.hid hr
      obtain ⟨b, c, y0, x1, y1, g, d, ys, rfl, h1, h2, c0, c1, c2, c3, ht, c4, c5, h3, h4, hc, hf⟩ := repS_app hr
      have C2 := Lib.hid c2
      have C3 := Lib.hid c3
      have C5 := Lib.hid c5
      have HT := Lib.hid ht
      have HC := Lib.hid hc
      have HF := Lib.hid hf
      have IH := Lib.hid ih
      rw [size] at hn
      clear c0 c1 c2 c3 c4 c5 hc hf ht hr ih
      unfold maxLen at h2 h4
      rw [st_eq] at HR ⊢
      go_enter Tryz.func110, Tryz.ntmps110
      go_wp2_with fail
      have hW := below_one w (.cells #[.string ⟨#[]⟩, .slice (some ⟨b, 0, none⟩) 3 c] 84)
      obtain ⟨hx1, hx2⟩ := two_cells w (.string ⟨#[]⟩) (.slice (some ⟨b, 0, none⟩) 3 c) 84
      have hsz : w.heap.size + 1 ≤ (w.alloc (.cells #[.string ⟨#[]⟩, .slice (some ⟨b, 0, none⟩) 3 c] 84)).heap.size := by simp
      generalize w.alloc (.cells #[.string ⟨#[]⟩, .slice (some ⟨b, 0, none⟩) 3 c] 84) = W at *
      have hKW := below_keeps hW
      refine (l1Head_any _ _ _ (HR.out.keep hKW)).mono ?_
      rintro e w2 ⟨rfl, hb2⟩
      rw [st_eq, show headT (ofTerm (.app t l)) = [97, 112, 112] from rfl]
      have hK2 := hKW.trans (below_keeps hb2)
      have hy2 : w2.cell? ⟨w.heap.size, 1, none⟩ = some (.slice (some ⟨b, 0, none⟩) 3 c) := by rw [hb2.cell (by show w.heap.size < _; omega)]; exact hx2
      have c2 := hK2 _ _ C2.out
      have c3 := hK2 _ _ C3.out
      clear hx1 hx2
      go_wp2_with fail
      refine (IH.out t _ w2 (by omega) (by omega) (HT.out.keep hK2)).mono ?_
      rintro e w3 ⟨rfl, hb3⟩
      have hs := size_pos t
      have hK3 := hK2.trans (below_keeps hb3)
      have hy3 : w3.cell? ⟨w.heap.size, 1, none⟩ = some (.slice (some ⟨b, 0, none⟩) 3 c) := below_keeps hb3 _ _ hy2
      have c5 := hK3 _ _ C5.out
      have hB3 : Below w.heap.size w w3 := (hW.trans (hb2.mono (by omega))).trans (hb3.mono (by have := hb2.size; omega))
      clear c2 c3 hy2
      go_wp2_with fail
      go_loopw [3, 5] (fun z i wr => ∃ k : Nat, k ≤ l.length ∧ i = .int .i64 (k + 1) ∧ z = .int .i64 (1 + size t + sizes (l.take k)) ∧ Below w3.heap.size w3 wr) (fun _ i _ => l.length + 1 - (intOf i).toNat)
      case atStart => exact ⟨0, by omega, rfl, by simp [sizes], Below.refl _ _⟩
      case round =>
        obtain ⟨k, hk, rfl, rfl, hB⟩ := hrel
        have hle := sizes_le l k
        by_cases hlt : k < l.length
        · obtain ⟨u, hu⟩ : ∃ u, l[k]? = some u := ⟨l[k], List.getElem?_eq_getElem hlt⟩
          obtain ⟨x, y, e1, e2, hrt⟩ := RepF.at _ ys (k + 1) (ofTerm u) HF.out (by rw [List.getElem?_cons_succ]; exact ofTerms_at l k u hu)
          have hK := hK3.trans (below_keeps hB)
          have c1 := hK _ _ (HC.out ((k + 1) * 2) x e1)
          have c2 := hK _ _ (HC.out ((k + 1) * 2 + 1) y e2)
          have HRU := Lib.hid (hrt.keep hK)
          have HS := Lib.hid (sizes_take l k u hu)
          have hs2 := sizes_le l (k + 1)
          have hs3 : size u ≤ sizes l := by have := HS.out; omega
          clear e1 e2 hrt hu
          go_wp2_with fail
          refine (IH.out u _ wr (by omega) (by omega) HRU.out).mono ?_
          rintro e w4 ⟨rfl, hb4⟩
          have hsu := size_pos u
          go_wp2_with fail
          go_roundw
          case rel => exact ⟨k + 1, by omega, by go_num, by rw [HS.out]; go_num, hB.trans (hb4.mono hB.size)⟩
          case measure => simp [intOf]; omega
        · have e : l.take k = l := List.take_of_length_le (by omega)
          have HE := Lib.hid e
          clear e
          go_wp2_with fail
          go_ret
          refine ⟨ret_int ?_, hB3.trans (hB.mono hB3.size)⟩
          rw [size, HE.out]; omega

end Go.Proofs.YtopmkddmllmecaaGreatDoor
