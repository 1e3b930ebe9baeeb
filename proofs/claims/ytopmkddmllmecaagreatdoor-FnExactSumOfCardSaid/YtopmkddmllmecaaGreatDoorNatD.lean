/- The program's naturals: times, of one word each. -/
import Derived.Test.YtopmkddmllmecaaGreatDoorNatC
import Derived.OwnWalk
namespace Go.Proofs.YtopmkddmllmecaaGreatDoor
open Go.RowKit Rt

theorem u32_info : (Tryz.prog.info? 132).map (fun i => (i.zero, i.size, i.bytes)) = some (some (.int .u32 0), 1, 4) := by kernel_rfl

theorem made_u32 (n : Nat) : (madeCells (Value.int .u32 0).cells (n * 1)).toList = List.replicate n (Value.int .u32 0) := by
  have hc : (Value.int .u32 0).cells = #[Value.int .u32 0] := rfl
  rw [hc, Nat.mul_one]
  apply List.ext_getElem
  · simp [madeCells]
  · intro i h1 h2
    simp [madeCells, Nat.mod_one]

theorem own_words {w : World} {B g c n : Nat} {ws : List Nat} (h : w.ownsRow B 132 1 (.slice (some ⟨g, 0, none⟩) n c) n (ws.map fun x => Value.int .u32 ((x : Nat) : Int))) (hl : ws.length = n) : WordsAt w (some ⟨g, 0, none⟩) n (fun j => ws.getD j 0) := by
  intro j hj
  refine ⟨g, 0, rfl, ?_⟩
  rw [Nat.zero_add, h.cellAt j (by omega)]
  rw [List.getElem?_map, List.getElem?_eq_getElem (by omega)]
  simp [List.getD, List.getElem?_eq_getElem (show j < ws.length by omega)]

theorem own_goU {w w' : World} {B n : Nat} {v : Value} {vs : List Value} (h : w.ownsRow B 132 1 v n vs) (hb : Below w.heap.size w w') : w'.ownsRow B 132 1 v n vs :=
  h.kept (row := none) ⟨hb.os, hb.tape, hb.output, hb.size, fun k hk _ => hb.block k hk⟩ (by
    cases hv : v.ownBlock with
    | none => exact .inl rfl
    | some k => exact .inr (by simp))

theorem rep_zero (q j : Nat) : (List.replicate q 0).getD j 0 = 0 := by
  rw [List.getD, List.getElem?_replicate]
  split <;> rfl

theorem nat_zero {w : World} {A : Option Addr} {c : Nat} (hc : c ≤ maxLen) : NatRep w (.slice A 0 c) 0 := ⟨by omega, A, c, rfl, Nat.zero_le _, hc, fun h => absurd h (by decide)⟩

set_option maxHeartbeats 3200000 in
set_option maxRecDepth 100000 in
theorem times_any (v u : Value) (x y : Nat) (w : World) (hx : x < 4294967296) (hy : y < 4294967296) (hv : NatRep w v x) (hu : NatRep w u y) :
    Calls Tryz.prog 95 #[v, u] w (NatPost w (x * y)) := by
  obtain ⟨i0, hi0, hz0, hz1, hz2⟩ := info_parts u32_info
  by_cases hx0 : x = 0
  · subst hx0
    obtain ⟨A, c, rfl⟩ := hv.zero
    obtain ⟨C, q, d, rfl, hq2, hqd, -, -⟩ := hu.shape
    rw [Nat.zero_mul]
    clear hv hu
    go_enter Tryz.func95, Tryz.ntmps95
    go_wp2_with (at_make; refine wpList_make_full _ rfl _ _ 56 rfl w.heap.size 132 i0 (.int .u32 0) 1 Tryz.underlying56 hi0 hz0 hz1 .i64 .i64 _ _ q rfl rfl rfl rfl (by rw [hz2]; omega) (by unfold maxLen; omega) (Nat.le_refl _) ?_; intro w1 hown1 hg1; rw [made_u32] at hown1; have H1 := Lib.hid hown1; have HB1 : Hid (Below w.heap.size w w1) := ⟨hg1.os, hg1.tape, hg1.output, hg1.size, fun k hk => hg1.block k hk (by simp)⟩; clear hown1 hg1)
    have HW : Hid (WordsAt w1 (some ⟨w.heap.size, 0, none⟩) q (fun j => (List.replicate q 0).getD j 0)) := own_words (by rw [List.map_replicate]; exact H1.out) (by simp)
    go_loop [19] (fun iv => iv = .int .i64 0) (fun _ => 0)
    case atStart => rfl
    case round =>
      obtain rfl := hrel
      go_wp2_with fail
      refine (trim_any (some ⟨w.heap.size, 0, none⟩) q q _ w1 (by omega) (Nat.le_refl _) HW.out).mono ?_
      rintro e w2 ⟨hb2, k, hk, rfl, -, h2⟩
      have hk0 : k = 0 := by
        rcases Nat.eq_zero_or_pos k with h | h
        · exact h
        · exact absurd (rep_zero q (k - 1)) (h2 h)
      subst hk0
      have HB2 := Lib.hid (HB1.out.trans (hb2.mono HB1.out.size))
      clear hb2 h2
      go_wp2_with fail
      go_ret
      exact ⟨HB2.out, _, rfl, nat_zero (by unfold maxLen; omega)⟩
  · obtain ⟨g, o, c, rfl, hc, e0⟩ := hv.one hx0 hx
    have HE0 := Lib.hid e0
    have hgl : g < w.heap.size := World.block_lt_of_cell? w _ e0
    by_cases hy0 : y = 0
    · subst hy0
      obtain ⟨C, d, rfl⟩ := hu.zero
      rw [Nat.mul_zero]
      clear hv hu e0
      go_enter Tryz.func95, Tryz.ntmps95
      go_wp2_with (at_make; refine wpList_make_full _ rfl _ _ 56 rfl w.heap.size 132 i0 (.int .u32 0) 1 Tryz.underlying56 hi0 hz0 hz1 .i64 .i64 _ _ 1 rfl rfl rfl rfl (by rw [hz2]; omega) (by unfold maxLen; omega) (Nat.le_refl _) ?_; intro w1 hown1 hg1; rw [made_u32] at hown1; have H1 := Lib.hid hown1; have HB1 : Hid (Below w.heap.size w w1) := ⟨hg1.os, hg1.tape, hg1.output, hg1.size, fun k hk => hg1.block k hk (by simp)⟩; clear hown1 hg1)
      go_loopw [19] (fun iv wr => (iv = .int .i64 0 ∨ iv = .int .i64 1) ∧ Hid (wr.ownsRow w.heap.size 132 1 (.slice (some ⟨w.heap.size, 0, none⟩) 1 1) 1 [.int .u32 0]) ∧ Hid (Below w.heap.size w wr)) (fun iv _ => 1 - (intOf iv).toNat)
      case atStart => exact ⟨.inl rfl, H1.out, HB1.out⟩
      case round =>
        obtain ⟨hiv, hown, hbel⟩ := hrel
        rcases hiv with rfl | rfl
        · have e0 : wr.cell? ⟨g, o, none⟩ = some (.int .u32 (x : Int)) := (hbel.out.cell (p := ⟨g, o, none⟩) hgl).trans HE0.out
          obtain ⟨g2, hg2, p1, p2, _, _, p5⟩ := own_cells hown.out (by omega)
          injection hg2 with hg2
          injection hg2 with hg2
          subst hg2
          have e2 := p5 0 _ rfl
          have e3 := hown.out.frozenAt 0
          have hst := (hown.out.stored 0 (.int .u32 0)).1
          have HST : Hid ((wr.setCell ⟨w.heap.size, 0, none⟩ (.int .u32 0)).ownsRow w.heap.size 132 1 (.slice (some ⟨w.heap.size, 0, none⟩) 1 1) 1 [.int .u32 0]) := hst
          clear hst p5
          go_wp2_with fail
          go_loop [8, 26] (fun cv iv => cv = .int .u64 0 ∧ iv = .int .i64 0) (fun _ _ => 0)
          case atStart => exact ⟨rfl, rfl⟩
          case round =>
            obtain ⟨rfl, rfl⟩ := hrel
            go_wp2_with fail
            go_roundw
            case rel => exact ⟨.inr rfl, HST.out, hbel.out.setCell (Nat.le_refl _) _⟩
            case measure => simp [intOf]
        · have HW : Hid (WordsAt wr (some ⟨w.heap.size, 0, none⟩) 1 (fun j => ([0] : List Nat).getD j 0)) := own_words hown.out rfl
          go_wp2_with fail
          refine (trim_any (some ⟨w.heap.size, 0, none⟩) 1 1 _ wr (by omega) (Nat.le_refl _) HW.out).mono ?_
          rintro e w2 ⟨hb2, k, hk, rfl, -, h2⟩
          have hk0 : k = 0 := by
            rcases Nat.eq_zero_or_pos k with h | h
            · exact h
            · exact absurd (rep_zero 1 (k - 1)) (h2 h)
          subst hk0
          have HB2 := Lib.hid (hbel.out.trans (hb2.mono hbel.out.size))
          clear hb2 h2
          go_wp2_with fail
          go_ret
          exact ⟨HB2.out, _, rfl, nat_zero (by unfold maxLen; omega)⟩
    · obtain ⟨g', o', d, rfl, hd, f0⟩ := hu.one hy0 hy
      have HF0 := Lib.hid f0
      have hgl' : g' < w.heap.size := World.block_lt_of_cell? w _ f0
      obtain ⟨z, hz⟩ : ∃ z, z = x * y := ⟨_, rfl⟩
      have hzl : z < 18446744073709551616 := by
        have h1 : x * y ≤ 4294967295 * 4294967295 := Nat.mul_le_mul (by omega) (by omega)
        omega
      have hxy : (x : Int) * (y : Int) = (z : Int) := by rw [hz]; rfl
      rw [← hz]
      obtain ⟨lo, hlo⟩ : ∃ lo, lo = z % 4294967296 := ⟨_, rfl⟩
      obtain ⟨hi, hhi⟩ : ∃ hi, hi = z / 4294967296 := ⟨_, rfl⟩
      have e_lo : (z : Int) % 4294967296 = (lo : Int) := by rw [hlo]; rfl
      have e_hi : (z : Int) / 4294967296 = (hi : Int) := by rw [hhi]; rfl
      have hl1 : lo < 4294967296 := by omega
      have hl2 : hi < 4294967296 := by omega
      have HLO := Lib.hid hlo
      have HHI := Lib.hid hhi
      clear hv hu e0 f0 hz hlo hhi
      go_enter Tryz.func95, Tryz.ntmps95
      go_wp2_with (at_make; refine wpList_make_full _ rfl _ _ 56 rfl w.heap.size 132 i0 (.int .u32 0) 1 Tryz.underlying56 hi0 hz0 hz1 .i64 .i64 _ _ 2 rfl rfl rfl rfl (by rw [hz2]; omega) (by unfold maxLen; omega) (Nat.le_refl _) ?_; intro w1 hown1 hg1; rw [made_u32] at hown1; have H1 := Lib.hid hown1; have HB1 : Hid (Below w.heap.size w w1) := ⟨hg1.os, hg1.tape, hg1.output, hg1.size, fun k hk => hg1.block k hk (by simp)⟩; clear hown1 hg1)
      go_loopw [19] (fun iv wr => ((iv = .int .i64 0 ∧ Hid (wr.ownsRow w.heap.size 132 1 (.slice (some ⟨w.heap.size, 0, none⟩) 2 2) 2 [.int .u32 0, .int .u32 0])) ∨ (iv = .int .i64 1 ∧ Hid (wr.ownsRow w.heap.size 132 1 (.slice (some ⟨w.heap.size, 0, none⟩) 2 2) 2 [.int .u32 (lo : Int), .int .u32 (hi : Int)]))) ∧ Hid (Below w.heap.size w wr)) (fun iv _ => 1 - (intOf iv).toNat)
      case atStart => exact ⟨.inl ⟨rfl, H1.out⟩, HB1.out⟩
      case round =>
        obtain ⟨hiv, hbel⟩ := hrel
        rcases hiv with ⟨rfl, hown⟩ | ⟨rfl, hown⟩
        · have e0 : wr.cell? ⟨g, o, none⟩ = some (.int .u32 (x : Int)) := (hbel.out.cell (p := ⟨g, o, none⟩) hgl).trans HE0.out
          have f0 : wr.cell? ⟨g', o', none⟩ = some (.int .u32 (y : Int)) := (hbel.out.cell (p := ⟨g', o', none⟩) hgl').trans HF0.out
          obtain ⟨g2, hg2, p1, p2, _, _, p5⟩ := own_cells hown.out (by omega)
          injection hg2 with hg2
          injection hg2 with hg2
          subst hg2
          have e2 := p5 0 _ rfl
          have e3 := hown.out.frozenAt 0
          have hst := (hown.out.stored 0 (.int .u32 (lo : Int))).1
          have HST : Hid ((wr.setCell ⟨w.heap.size, 0, none⟩ (.int .u32 (lo : Int))).ownsRow w.heap.size 132 1 (.slice (some ⟨w.heap.size, 0, none⟩) 2 2) 2 [.int .u32 (lo : Int), .int .u32 0]) := hst
          clear hst p5
          go_wp2_with fail
          obtain ⟨wo, rfl⟩ : ∃ wo : World, wo = wr := ⟨_, rfl⟩
          go_loopw [8, 26] (fun cv kv wq => (cv = .int .u64 0 ∧ kv = .int .i64 0 ∧ wq = wo) ∨ (cv = .int .u64 (hi : Int) ∧ kv = .int .i64 1 ∧ Hid (wq.ownsRow w.heap.size 132 1 (.slice (some ⟨w.heap.size, 0, none⟩) 2 2) 2 [.int .u32 (lo : Int), .int .u32 0]) ∧ Hid (Below w.heap.size w wq))) (fun _ kv _ => 1 - (intOf kv).toNat)
          case atStart => exact .inl ⟨rfl, rfl, rfl⟩
          case round =>
            rcases hrel with ⟨rfl, rfl, rfl⟩ | ⟨rfl, rfl, hown2, hbel2⟩
            · go_wp2_with fail
              go_roundw
              case rel => exact .inr ⟨rfl, rfl, HST.out, hbel.out.setCell (Nat.le_refl _) _⟩
              case measure => simp [intOf]
            · obtain ⟨g3, hg3, p1', p2', _, _, p5⟩ := own_cells hown2.out (by omega)
              injection hg3 with hg3
              injection hg3 with hg3
              subst hg3
              have e4 := p5 1 _ rfl
              have e5 := hown2.out.frozenAt 1
              have hst := (hown2.out.stored 1 (.int .u32 (hi : Int))).1
              have HS2 := Lib.hid hst
              clear hst p5
              go_wp2_with fail
              go_roundw
              case rel => exact ⟨.inr ⟨rfl, HS2.out⟩, hbel2.out.setCell (Nat.le_refl _) _⟩
              case measure => simp [intOf]
        · have HW : Hid (WordsAt wr (some ⟨w.heap.size, 0, none⟩) 2 (fun j => ([lo, hi] : List Nat).getD j 0)) := own_words hown.out rfl
          go_wp2_with fail
          refine (trim_any (some ⟨w.heap.size, 0, none⟩) 2 2 _ wr (by omega) (Nat.le_refl _) HW.out).mono ?_
          rintro e w2 ⟨hb2, k, hk, rfl, h1, h2⟩
          obtain ⟨g2, hg2, p1, p2, _, _, p5⟩ := own_cells (own_goU hown.out hb2) (by omega)
          injection hg2 with hg2
          injection hg2 with hg2
          subst hg2
          have c0 := p5 0 _ rfl
          have c1 := p5 1 _ rfl
          rw [HLO.out] at c0
          rw [HHI.out] at c1
          have HN : Hid (NatRep w2 (.slice (some ⟨w.heap.size, 0, none⟩) k 2) z) := trim_nat hzl (Nat.le_refl _) (by decide) hk c0 c1
            (fun j a b => by have := h1 j a b; match j, b with | 0, _ => rw [← HLO.out]; exact this | 1, _ => rw [← HHI.out]; exact this)
            (fun a => by have := h2 a; match k, hk, a with | 1, _, _ => rw [← HLO.out]; exact this | 2, _, _ => rw [← HHI.out]; exact this)
          have HB2 := Lib.hid (hbel.out.trans (hb2.mono hbel.out.size))
          clear hb2 h1 h2 p5 c0 c1
          go_wp2_with fail
          go_ret
          exact ⟨HB2.out, _, rfl, HN.out⟩

end Go.Proofs.YtopmkddmllmecaaGreatDoor
