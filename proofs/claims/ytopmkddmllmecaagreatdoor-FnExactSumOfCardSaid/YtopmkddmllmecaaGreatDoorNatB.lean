/- The program's naturals: trim, naturalOf, word. -/
import Derived.Test.YtopmkddmllmecaaGreatDoorNatA
import Derived.Laws.BitsAllLaws
namespace Go.Proofs.YtopmkddmllmecaaGreatDoor
open Go.RowKit Rt

def lenOf : Value → Nat
  | .slice _ n _ => n
  | _ => 0

/-- Some words in memory. -/
def WordsAt (w : World) (A : Option Addr) (n : Nat) (ws : Nat → Nat) : Prop := ∀ j, j < n → ∃ g o : Nat, A = some ⟨g, o, none⟩ ∧ w.cell? ⟨g, o + j, none⟩ = some (.int .u32 ((ws j : Nat) : Int))

/-- What trim gives: without the 0 behind the last other one. -/
def TrimPost (w : World) (A : Option Addr) (n c : Nat) (ws : Nat → Nat) (e : Ending) (w' : World) : Prop :=
  Below w.heap.size w w' ∧ ∃ k, k ≤ n ∧ e = .returned (.slice A k c) ∧ (∀ j, k ≤ j → j < n → ws j = 0) ∧ (0 < k → ws (k - 1) ≠ 0)

set_option maxHeartbeats 1600000 in
set_option maxRecDepth 100000 in
theorem trim_any (A : Option Addr) (n c : Nat) (ws : Nat → Nat) (w : World) (hn : n ≤ 100) (hnc : n ≤ c) (hA : WordsAt w A n ws) :
    Calls Tryz.prog 99 #[.slice A n c] w (TrimPost w A n c ws) := by
  have HA := Lib.hid hA
  clear hA
  go_enter Tryz.func99, Tryz.ntmps99
  go_wp2_with fail
  go_loop [0] (fun av => ∃ k : Nat, k ≤ n ∧ av = .slice A k c ∧ Hid (∀ j, k ≤ j → j < n → ws j = 0)) (fun av => lenOf av)
  case atStart => exact ⟨n, Nat.le_refl _, rfl, fun j h1 h2 => by omega⟩
  case round =>
    obtain ⟨k, hk, rfl, hz⟩ := hrel
    by_cases hk0 : k = 0
    · subst hk0
      go_wp2_with fail
      go_ret
      exact ⟨Below.refl _ _, 0, Nat.zero_le _, rfl, hz.out, fun h => by omega⟩
    · obtain ⟨m, rfl⟩ : ∃ m, k = m + 1 := ⟨k - 1, by omega⟩
      obtain ⟨g, o, rfl, e0⟩ := HA.out m (by omega)
      obtain ⟨x, hx⟩ : ∃ x, x = ws m := ⟨_, rfl⟩
      rw [← hx] at e0
      have HX := Lib.hid hx
      clear hx hk0
      have hmc : m + 1 ≤ c := by omega
      by_cases hx0 : x = 0
      · have d1 : ((x : Int) == 0) = true := by simp [hx0]
        go_wp2_with fail
        go_round
        case rel => exact ⟨m, by omega, by first | rfl | (congr 1; omega), fun j h1 h2 => by
          by_cases hj : j = m
          · rw [hj, ← HX.out, hx0]
          · exact hz.out j (by omega) h2⟩
        case measure => simp [lenOf]
      · have d1 : ((x : Int) == 0) = false := by simpa using hx0
        go_wp2_with fail
        go_ret
        exact ⟨Below.refl _ _, m + 1, hk, rfl, hz.out, fun _ => by rw [Nat.add_sub_cancel, ← HX.out]; exact hx0⟩

/-- What gives a number. -/
def NatPost (w : World) (x : Nat) (e : Ending) (w' : World) : Prop := Below w.heap.size w w' ∧ ∃ v, e = .returned v ∧ NatRep w' v x

/-- Two words, trimmed, read as their number. -/
theorem trim_nat {w' : World} {g o c x k : Nat} (hx : x < 18446744073709551616) (hc : 2 ≤ c) (hcm : c ≤ maxLen) (hk : k ≤ 2) (e0 : w'.cell? ⟨g, o, none⟩ = some (.int .u32 ((x % 4294967296 : Nat) : Int))) (e1 : w'.cell? ⟨g, o + 1, none⟩ = some (.int .u32 ((x / 4294967296 : Nat) : Int)))
    (h1 : ∀ j, k ≤ j → j < 2 → (if j = 0 then x % 4294967296 else x / 4294967296) = 0) (h2 : 0 < k → (if k - 1 = 0 then x % 4294967296 else x / 4294967296) ≠ 0) : NatRep w' (.slice (some ⟨g, o, none⟩) k c) x := by
  have hk' : k = nw x := by
    match k, hk with
    | 0, _ =>
      have a := h1 0 (by omega) (by omega)
      have b := h1 1 (by omega) (by omega)
      simp at a b
      have : x = 0 := by omega
      subst this
      rfl
    | 1, _ =>
      have a := h2 (by omega)
      have b := h1 1 (by omega) (by omega)
      simp at a b
      rw [nw_one (by omega) (by omega)]
    | 2, _ =>
      have a := h2 (by omega)
      simp at a
      rw [nw_two (by omega)]
  subst hk'
  exact ⟨hx, some ⟨g, o, none⟩, c, rfl, by omega, hcm, fun _ => ⟨g, o, rfl, e0, fun _ => e1⟩⟩

theorem two_words (w : World) (x : Nat) : WordsAt (w.alloc (.cells #[.int .u32 ((x : Int) % 4294967296), .int .u32 ((x : Int) / 4294967296)] 132)) (some ⟨w.heap.size, 0, none⟩) 2 (fun j => if j = 0 then x % 4294967296 else x / 4294967296) := by
  intro j hj
  have hb := Blk.new w 132 #[.int .u32 ((x : Int) % 4294967296), .int .u32 ((x : Int) / 4294967296)]
  obtain ⟨p0, p1, _, _⟩ := blk_cells hb
  refine ⟨w.heap.size, 0, rfl, ?_⟩
  match j, hj with
  | 0, _ => exact p0
  | 1, _ => exact p1

set_option maxHeartbeats 1600000 in
set_option maxRecDepth 100000 in
theorem naturalOf_any (x : Nat) (w : World) (hx : x < 18446744073709551616) :
    Calls Tryz.prog 73 #[.int .u64 x] w (NatPost w x) := by
  have HT := Lib.hid (trim_any (some ⟨w.heap.size, 0, none⟩) 2 2 _ _ (by omega) (by omega) (two_words w x))
  have hb := Blk.new w 132 #[.int .u32 ((x : Int) % 4294967296), .int .u32 ((x : Int) / 4294967296)]
  have HBK := Lib.hid hb
  clear hb
  go_enter Tryz.func73, Tryz.ntmps73
  go_wp2_with fail
  refine HT.out.mono ?_
  rintro e w2 ⟨hb2, k, hk, rfl, h1, h2⟩
  have HB2 := Lib.hid hb2
  have H1 := Lib.hid h1
  have H2 := Lib.hid h2
  obtain ⟨p0, p1, _, _⟩ := blk_cells (HBK.out.below hb2 HBK.out.lt)
  have HN : Hid (NatRep w2 (.slice (some ⟨w.heap.size, 0, none⟩) k 2) x) := trim_nat hx (Nat.le_refl _) (by decide) hk p0 p1 H1.out H2.out
  have hal : Below w.heap.size w (w.alloc (.cells #[.int .u32 ((x : Int) % 4294967296), .int .u32 ((x : Int) / 4294967296)] 132)) := (Below.refl _ _).alloc (Nat.le_refl _) _
  have HBB := Lib.hid (hal.trans (hb2.mono hal.size))
  clear hb2 h1 h2 p0 p1 hal
  go_wp2_with fail
  go_ret
  exact ⟨HBB.out, _, rfl, HN.out⟩

theorem or_u64 (a b : Nat) (ha : a < 18446744073709551616) (hb : b < 18446744073709551616) : bits .or .u64 (a : Int) (b : Int) = ((a ||| b : Nat) : Int) := by
  have hx : a ||| b < 2 ^ 64 := Nat.or_lt_two_pow (by omega) (by omega)
  show IntKind.u64.wrap ((BitVec.ofInt 64 (a : Int) ||| BitVec.ofInt 64 (b : Int)).toNat : Int) = _
  rw [BitVec.toNat_or, ofInt_u64 a ha, ofInt_u64 b hb]
  simp [IntKind.wrap, IntKind.bits, IntKind.signed]
  omega

theorem or_zero (x : Nat) (hx : x < 18446744073709551616) : bits .or .u64 0 (x : Int) = (x : Int) := by
  have h := or_u64 0 x (by omega) hx
  rw [Nat.zero_or] at h
  exact h

theorem or_high (lo hi : Nat) (h1 : lo < 4294967296) (h2 : hi < 4294967296) : bits .or .u64 (lo : Int) ((hi : Int) * 4294967296) = ((lo + hi * 4294967296 : Nat) : Int) := by
  have h := or_u64 lo (hi * 4294967296) (by omega) (by omega)
  rw [Nat.or_comm] at h
  have h3 := Nat.shiftLeft_add_eq_or_of_lt (b := lo) (i := 32) (by omega) hi
  rw [Nat.shiftLeft_eq] at h3
  simp only [Nat.reducePow] at h3
  rw [← h3, Nat.add_comm] at h
  exact h

set_option maxHeartbeats 1600000 in
set_option maxRecDepth 100000 in
theorem word_any (v : Value) (x : Nat) (w : World) (hv : NatRep w v x) :
    Calls Tryz.prog 80 #[v] w fun e w' => e = .returned (.int .u64 x) ∧ Below w.heap.size w w' := by
  have hx := hv.1
  by_cases h0 : x = 0
  · subst h0
    obtain ⟨A, c, rfl⟩ := hv.zero
    go_enter Tryz.func80, Tryz.ntmps80
    go_wp2_with fail
    go_loop [3, 12] (fun nv iv => nv = .int .u64 0 ∧ iv = .int .i64 0) (fun _ _ => 0)
    case atStart => exact ⟨rfl, rfl⟩
    case round =>
      obtain ⟨rfl, rfl⟩ := hrel
      go_wp2_with fail
      go_ret
      exact ⟨rfl, Below.refl _ _⟩
  · by_cases h1 : x < 4294967296
    · obtain ⟨g, o, c, rfl, hc, e0⟩ := hv.one h0 h1
      clear hv
      go_enter Tryz.func80, Tryz.ntmps80
      go_wp2_with fail
      go_loop [3, 12] (fun nv iv => (nv = .int .u64 0 ∧ iv = .int .i64 0) ∨ (nv = .int .u64 x ∧ iv = .int .i64 1)) (fun _ iv => 1 - (intOf iv).toNat)
      case atStart => exact .inl ⟨rfl, rfl⟩
      case round =>
        rcases hrel with ⟨rfl, rfl⟩ | ⟨rfl, rfl⟩
        · have HOR : Hid (bits .or .u64 0 (x : Int) = (x : Int)) := or_zero x hx
          go_wp2_with fail
          go_round
          case rel => exact .inr ⟨by rw [HOR.out], rfl⟩
          case measure => simp [intOf]
        · go_wp2_with fail
          go_ret
          exact ⟨rfl, Below.refl _ _⟩
    · obtain ⟨g, o, c, rfl, hc, e0, e1⟩ := hv.two (by omega)
      obtain ⟨lo, hlo⟩ : ∃ lo, lo = x % 4294967296 := ⟨_, rfl⟩
      obtain ⟨hi, hhi⟩ : ∃ hi, hi = x / 4294967296 := ⟨_, rfl⟩
      rw [← hlo] at e0
      rw [← hhi] at e1
      have hl1 : lo < 4294967296 := by omega
      have hl2 : hi < 4294967296 := by omega
      have hxx : x = lo + hi * 4294967296 := by omega
      clear hv hlo hhi
      go_enter Tryz.func80, Tryz.ntmps80
      go_wp2_with fail
      go_loop [3, 12] (fun nv iv => (nv = .int .u64 0 ∧ iv = .int .i64 0) ∨ (nv = .int .u64 lo ∧ iv = .int .i64 1) ∨ (nv = .int .u64 x ∧ iv = .int .i64 2)) (fun _ iv => 2 - (intOf iv).toNat)
      case atStart => exact .inl ⟨rfl, rfl⟩
      case round =>
        rcases hrel with ⟨rfl, rfl⟩ | ⟨rfl, rfl⟩ | ⟨rfl, rfl⟩
        · have HOR : Hid (bits .or .u64 0 (lo : Int) = (lo : Int)) := or_zero lo (by omega)
          go_wp2_with fail
          go_round
          case rel => exact .inr (.inl ⟨by rw [HOR.out], rfl⟩)
          case measure => simp [intOf]
        · have HOR : Hid (bits .or .u64 (lo : Int) ((hi : Int) * 4294967296) = (x : Int)) := by show _ = _; rw [or_high lo hi hl1 hl2, hxx]
          go_wp2_with fail
          go_round
          case rel => exact .inr (.inr ⟨by rw [HOR.out], rfl⟩)
          case measure => simp [intOf]
        · go_wp2_with fail
          go_ret
          exact ⟨rfl, Below.refl _ _⟩

end Go.Proofs.YtopmkddmllmecaaGreatDoor
