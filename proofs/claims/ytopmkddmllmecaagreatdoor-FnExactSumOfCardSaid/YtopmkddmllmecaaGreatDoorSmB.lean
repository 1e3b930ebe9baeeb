/- The program's SumOf. -/
import Derived.Test.YtopmkddmllmecaaGreatDoorSmA
namespace Go.Proofs.YtopmkddmllmecaaGreatDoor
open Go.RowKit Rt Go.Lib Go.Maps Go.Sort
open Go.ChangeMaps Go.MapKept Go.WideMaps

/-- What add gives of a 0. -/
def AddZero (w : World) (mm k : Nat) (D : DataW Value) (key : B) (e : Ending) (w' : World) : Prop :=
  e = .returned (.tuple #[]) ∧ w.grownBy w' (some mm) ∧ w'.ownsMap Tryz.prog 9 RV mm k (D.del (.string key))

set_option maxHeartbeats 1600000 in
set_option maxRecDepth 100000 in
theorem add_zero (key : ByteArray) (v : Value) (s : Bool) (b mm k : Nat) (D : DataW Value) (w : World) (hm : key.size ≤ maxLen) (hown : w.ownsMap Tryz.prog 9 RV mm k D) (hnot : Maps.has D (.string key.data.toList) = false) (hf : FracRep w v s 0 b) :
    Calls Tryz.prog 40 #[.map (some mm), .string key, v] w (AddZero w mm k D key.data.toList) := by
  have hf0 := hf
  obtain ⟨x, y, rfl, hx, hy⟩ := hf
  obtain ⟨A1, n1, c1, rfl, -, -, -, -⟩ := hx.shape
  obtain ⟨A2, n2, c2, rfl, -, -, -, -⟩ := hy.shape
  have hkey : keyOf Tryz.prog 9 (.string key) = some (.string key.data.toList) := keyOf_string_mk Tryz.underlying9 hm
  have hba : Below w.heap.size w (w.alloc (.cells #[.bool s, .slice A1 n1 c1, .slice A2 n2 c2] 58)) := by go_grown
  have hown1 := ownsMap_same (hba.block mm hown.lt) hown
  obtain ⟨u, ps, hrun, hv⟩ := hown1.look_ok (t := 53) (string_keyed Tryz.underlying9) Tryz.underlying53 (zeroFrac _) (zd := .held (.agg #[.bool false, .slice none 0 0, .slice none 0 0])) (zp := []) rfl hkey
  have hv2 : u = .agg #[.bool false, .slice none 0 0, .slice none 0 0] := by
    have h5 := Maps.atKey_of_not_has (D := D) hnot (.held (.agg #[.bool false, .slice none 0 0, .slice none 0 0]))
    rw [h5] at hv
    simp only [RV, Option.some.injEq, Prod.mk.injEq, DataW.held.injEq] at hv
    exact hv.1
  subst hv2
  rw [hnot] at hrun
  have hbb : Below w.heap.size w ((w.alloc (.cells #[.bool s, .slice A1 n1 c1, .slice A2 n2 c2] 58)).alloc (.cells #[.bool false, .slice none 0 0, .slice none 0 0] 58)) := by go_grown
  have HIZ := Lib.hid (isZero_any (.agg #[.bool s, .slice A1 n1 c1, .slice A2 n2 c2]) s 0 b _ (hf0.below hbb))
  have HBB := Lib.hid hbb
  have HOWN := Lib.hid hown
  have HKEY := Lib.hid hkey
  have hz : decide ((0 : Nat) = 0) = true := rfl
  rw [hz] at HIZ
  clear hx hy hf0 hown hown1 hkey hba hbb hv hnot hz
  go_enter Tryz.func40, Tryz.ntmps40
  go_wp2_with fail
  refine HIZ.out.mono ?_
  rintro e w2 ⟨rfl, hb2⟩
  have hB2 := HBB.out.trans (hb2.mono HBB.out.size)
  have hown2 := ownsMap_same (hB2.block mm HOWN.out.lt) HOWN.out
  obtain ⟨w3, hrun3, hown3, hg3⟩ := hown2.drop (t := 53) (string_keyed Tryz.underlying9) Tryz.underlying53 HKEY.out 0
  have HR3 := Lib.hid (And.intro hown3 (grown_of_below hB2 hg3.grown))
  clear hb2 hB2 hown2 hown3 hg3 hrun
  go_wp2_with fail
  refine bodyPost_ret (v := .tuple #[]) ?_ rfl ?_
  · simp [results, Tryz.results40, go_sem]
  · exact ⟨rfl, HR3.out.2, HR3.out.1⟩

/-- A sum of at most one term, as the program and the model hold it. -/
def OneOut (w : World) (key : B) (t b : Int) (e : Ending) (w' : World) : Prop :=
  Below w.heap.size w w' ∧ match (termOf key).isSome && smallF t b, decide (t = 0) with
    | true, false => ∃ v0 v1 v2, e = .returned (.tuple #[.agg #[v0, v1, v2], .bool true]) ∧ w'.ownsRow w.heap.size 9 1 v0 1 [.string ⟨key.toArray⟩] ∧ w'.ownsRow w.heap.size 3 1 v1 1 [.int .i64 (if t < 0 then -(fracTop t b : Int) else (fracTop t b : Int))] ∧ w'.ownsRow w.heap.size 3 1 v2 1 [.int .i64 (fracBot t b : Int)] ∧ ∀ q, v1.ownBlock = some q → v2.ownBlock ≠ some q
    | true, true => ∃ v0 v1 v2, e = .returned (.tuple #[.agg #[v0, v1, v2], .bool true]) ∧ w'.ownsRow w.heap.size 9 1 v0 0 [] ∧ w'.ownsRow w.heap.size 3 1 v1 0 [] ∧ w'.ownsRow w.heap.size 3 1 v2 0 [] ∧ ∀ q, v1.ownBlock = some q → v2.ownBlock ≠ some q
    | false, _ => e = .returned (.tuple #[.agg #[.slice none 0 0, .slice none 0 0, .slice none 0 0], .bool false])

theorem frac_le (t b : Int) (h1 : -1000000000 ≤ t) (h2 : t ≤ 1000000000) (h3 : 1 ≤ b) (h4 : b ≤ 1000000000) : fracTop t b ≤ 1000000000 ∧ fracBot t b ≤ 1000000000 := by
  have q1 : t.natAbs / Nat.gcd t.natAbs b.natAbs ≤ t.natAbs := Nat.div_le_self _ _
  have q2 : b.natAbs / Nat.gcd t.natAbs b.natAbs ≤ b.natAbs := Nat.div_le_self _ _
  unfold fracTop fracBot
  omega

theorem fracTop_zero {t b : Int} (h3 : 1 ≤ b) : fracTop t b = 0 ↔ t = 0 := by
  unfold fracTop
  constructor
  · intro h
    have hg : 0 < Nat.gcd t.natAbs b.natAbs := Nat.gcd_pos_of_pos_right _ (by omega)
    have hd : Nat.gcd t.natAbs b.natAbs ∣ t.natAbs := Nat.gcd_dvd_left _ _
    have h5 := Nat.div_mul_cancel hd
    rw [h] at h5
    omega
  · rintro rfl
    simp

set_option maxHeartbeats 3200000 in
set_option maxRecDepth 100000 in
theorem implSumOf (s : ByteArray) (t b : Int) (w : World) (hm : s.size ≤ maxLen) :
    Calls Tryz.prog 11 #[.string s, .int .i64 t, .int .i64 b] w (OneOut w s.data.toList t b) := by
  have HTV : Hid (∀ W, Calls Tryz.prog 38 #[.string s] W fun e w' => e = .returned (.bool (termOf s.data.toList).isSome) ∧ Below W.heap.size W w') := fun W => implTermValid s hm W
  have HB0 : Hid (Below w.heap.size w (w.alloc (.cells #[.slice none 0 0, .slice none 0 0, .slice none 0 0] 25))) := below_alloc (Below.refl _ w) _
  have HH0 := Lib.hid (Blk.new w 25 #[.slice none 0 0, .slice none 0 0, .slice none 0 0])
  cases ht : (termOf s.data.toList).isSome
  · rw [ht] at HTV
    have HX : Hid (OneOut w s.data.toList t b = fun e w' => Below w.heap.size w w' ∧ e = .returned (.tuple #[.agg #[.slice none 0 0, .slice none 0 0, .slice none 0 0], .bool false])) := by
      show _ = _
      funext e w'
      unfold OneOut
      rw [ht, Bool.false_and]
    clear ht
    go_enter Tryz.func11, Tryz.ntmps11
    go_wp2_with fail
    refine (HTV.out _).mono ?_
    rintro e w1 ⟨rfl, hb1⟩
    have HB1 := Lib.hid (HB0.out.trans (hb1.mono HB0.out.size))
    have hh1 := HH0.out.below hb1 HH0.out.lt
    obtain ⟨z0, z1, z2, y0, y1, y2⟩ := blk_three' hh1
    obtain ⟨u0, u1, u2⟩ := blk_three (set3_blk hh1 (.slice none 0 0) (.slice none 0 0) (.slice none 0 0))
    clear hb1 hh1
    go_wp2_with fail
    refine bodyPost_ret (v := .tuple #[.agg #[.slice none 0 0, .slice none 0 0, .slice none 0 0], .bool false]) ?_ rfl ?_
    · simp [results, Tryz.results11, go_sem, u0, u1, u2]
    · rw [HX.out]
      exact ⟨((HB1.out.setCell (by simp) _).setCell (by simp) _).setCell (by simp) _, rfl⟩
  · rw [ht] at HTV
    cases hsm : smallF t b
    · have HX : Hid (OneOut w s.data.toList t b = fun e w' => Below w.heap.size w w' ∧ e = .returned (.tuple #[.agg #[.slice none 0 0, .slice none 0 0, .slice none 0 0], .bool false])) := by
        show _ = _
        funext e w'
        unfold OneOut
        rw [hsm, Bool.and_false]
      clear ht
      go_enter Tryz.func11, Tryz.ntmps11
      go_wp2_with fail
      refine (HTV.out _).mono ?_
      rintro e w1 ⟨rfl, hb1⟩
      have HB1 := Lib.hid (HB0.out.trans (hb1.mono HB0.out.size))
      have hh1 := HH0.out.below hb1 HH0.out.lt
      obtain ⟨z0, z1, z2, y0, y1, y2⟩ := blk_three' hh1
      obtain ⟨u0, u1, u2⟩ := blk_three (set3_blk hh1 (.slice none 0 0) (.slice none 0 0) (.slice none 0 0))
      clear hb1 hh1
      go_wp2_with (go_at_call 39; refine (isFraction_any _ _ _).mono ?_; rintro e w' ⟨rfl, rfl⟩)
      refine bodyPost_ret (v := .tuple #[.agg #[.slice none 0 0, .slice none 0 0, .slice none 0 0], .bool false]) ?_ rfl ?_
      · simp [results, Tryz.results11, go_sem, u0, u1, u2]
      · rw [HX.out]
        exact ⟨((HB1.out.setCell (by simp) _).setCell (by simp) _).setCell (by simp) _, rfl⟩
    · obtain ⟨l1, l2, l3, l4⟩ := smallF_parts hsm
      have HSM := Lib.hid hsm
      have HIS : Hid (∀ W, Calls Tryz.prog 39 #[.int .i64 t, .int .i64 b] W fun e w' => e = .returned (.bool true) ∧ W = w') := fun W => by rw [← hsm]; exact isFraction_any t b W
      have HTO := Lib.hid ht
      clear ht hsm
      have hmm := @run_makeMap Tryz.prog
      go_enter Tryz.func11, Tryz.ntmps11
      go_wp2_with fail
      refine (HTV.out _).mono ?_
      rintro e w1 ⟨rfl, hb1⟩
      have HB1 := Lib.hid (HB0.out.trans (hb1.mono HB0.out.size))
      have HH1 := Lib.hid (HH0.out.below hb1 HH0.out.lt)
      clear hb1
      go_wp2_with (go_at_call 39; refine (HIS.out _).mono ?_; rintro e w' ⟨rfl, rfl⟩)
      clear hmm
      refine (fractionOf_any t b _ l1 l2 l3 l4).mono ?_
      rintro e w2 ⟨hb2, fv, rfl, hf2⟩
      have hbm : Below w1.heap.size w1 (w1.alloc (.map #[] 0)) := by go_grown
      have hm0 := World.ownsMap_made w1 Tryz.prog 9 RV
      have hm2 : w2.ownsMap Tryz.prog 9 RV w1.heap.size 0 (.map []) := ownsMap_same (hb2.block _ (by simp)) hm0
      have HM2 := Lib.hid hm2
      have HB2 := Lib.hid (HB1.out.trans ((hbm.mono HB1.out.size).trans (hb2.mono (by have := HB1.out.size; simp; omega))))
      have HH2 := Lib.hid ((HH1.out.below hbm HH1.out.lt).below hb2 (by have := HH1.out.lt; simp; omega))
      have hs1 := HB1.out.size
      have hl1 := HH1.out.lt
      have HF2 := Lib.hid hf2
      obtain ⟨x5, y5, rfl, hx5, hy5⟩ := hf2
      obtain ⟨A5, n5, c5, rfl, -, -, -, -⟩ := hx5.shape
      obtain ⟨A6, n6, c6, rfl, -, -, -, -⟩ := hy5.shape
      clear hb2 hm0 hm2 hbm hx5 hy5
      have hnot : Maps.has (.map [] : DataW Value) (.string s.data.toList) = false := by simp [Maps.has]
      by_cases ht0 : t = 0
      · have hz := (fracTop_zero (t := t) l3).2 ht0
        have hz2 := HF2.out
        rw [hz] at hz2
        have HAZ := Lib.hid (add_zero s _ _ _ w1.heap.size 0 _ w2 hm HM2.out hnot hz2)
        have HX : Hid (OneOut w s.data.toList t b = fun e w' => Below w.heap.size w w' ∧ ∃ v0 v1 v2, e = .returned (.tuple #[.agg #[v0, v1, v2], .bool true]) ∧ w'.ownsRow w.heap.size 9 1 v0 0 [] ∧ w'.ownsRow w.heap.size 3 1 v1 0 [] ∧ w'.ownsRow w.heap.size 3 1 v2 0 [] ∧ ∀ q, v1.ownBlock = some q → v2.ownBlock ≠ some q) := by
          show _ = _
          funext e w'
          unfold OneOut
          rw [HTO.out, HSM.out, decide_eq_true ht0]
          rfl
        clear hz hz2 hnot ht0
        go_wp2_with fail
        refine HAZ.out.mono ?_
        rintro e w3 ⟨rfl, hg3, ho3⟩
        have HB3 : Hid (Below w.heap.size w w3) := by
          have h1 := HB2.out
          refine ⟨hg3.os.trans h1.os, hg3.tape.trans h1.tape, hg3.output.trans h1.output, Nat.le_trans h1.size hg3.size, fun q hq => ?_⟩
          rw [hg3.block q (by have := h1.size; omega) (by intro e; injection e with e; omega)]
          exact h1.block q hq
        have HH3 := Lib.hid (HH2.out.grown hg3 (by intro e; injection e with e; omega))
        have HSU := Lib.hid (sum_any w1.heap.size 0 _ (fun _ => (false, 0, 0)) [] w3 (by omega) (fun ss hss => by
          have e5 : ss = [] := by
            have h5 := hss.length_eq
            have h6 : strKeys ((.map [] : DataW Value).del (.string s.data.toList)) = [] := by rfl
            rw [h6] at h5
            exact List.length_eq_zero_iff.1 h5
          rw [e5]; simp) rfl (fun key hk => by cases hk) ⟨ho3, fun key hk => by
            have h6 : Maps.has ((.map [] : DataW Value).del (.string s.data.toList)) (.string key) = false := by rfl
            rw [h6] at hk; cases hk⟩)
        have HSO : Hid (∀ e w', SumOut w3 [] (fun _ => (false, 0, 0)) e w' = (Below w3.heap.size w3 w' ∧ ∃ v0 v1 v2, e = .returned (.tuple #[.agg #[v0, v1, v2], .bool true]) ∧ w'.ownsRow w3.heap.size 9 1 v0 0 [] ∧ w'.ownsRow w3.heap.size 3 1 v1 0 [] ∧ w'.ownsRow w3.heap.size 3 1 v2 0 [] ∧ ∀ q, v1.ownBlock = some q → v2.ownBlock ≠ some q)) := fun e w' => rfl
        clear hg3 ho3
        go_wp2_with fail
        refine HSU.out.mono ?_
        intro e w4 hq
        rw [HSO.out] at hq
        obtain ⟨hb4, v0, v1, v2, rfl, r0, r1, r2, r12⟩ := hq
        obtain ⟨A0, d0, rfl⟩ := own_shape r0
        obtain ⟨A1, d1, rfl⟩ := own_shape r1
        obtain ⟨A2, d2, rfl⟩ := own_shape r2
        have HB4 := Lib.hid (HB3.out.trans (hb4.mono HB3.out.size))
        have hh4 := HH3.out.below hb4 HH3.out.lt
        obtain ⟨z0, z1, z2, y0, y1, y2⟩ := blk_three' hh4
        obtain ⟨u0, u1, u2⟩ := blk_three (set3_blk hh4 (.slice A0 0 d0) (.slice A1 0 d1) (.slice A2 0 d2))
        have HR := Lib.hid (And.intro r0 (And.intro r1 r2))
        have HR12 := Lib.hid r12
        have hs3 := HB3.out.size
        have hlt3 := HH3.out.lt
        clear hb4 hh4 r0 r1 r2 r12
        go_wp2_with fail
        refine bodyPost_ret (v := .tuple #[.agg #[.slice A0 0 d0, .slice A1 0 d1, .slice A2 0 d2], .bool true]) ?_ rfl ?_
        · simp [results, Tryz.results11, go_sem, u0, u1, u2]
        · rw [HX.out]
          refine ⟨((HB4.out.setCell (by simp) _).setCell (by simp) _).setCell (by simp) _, _, _, _, rfl, ?_, ?_, ?_, HR12.out⟩
          · exact own_base (base' := w.heap.size) (ownsRow_setCell_below (ownsRow_setCell_below (ownsRow_setCell_below HR.out.1 (by simpa using hlt3) _) (by simpa using hlt3) _) (by simpa using hlt3) _) hs3
          · exact own_base (base' := w.heap.size) (ownsRow_setCell_below (ownsRow_setCell_below (ownsRow_setCell_below HR.out.2.1 (by simpa using hlt3) _) (by simpa using hlt3) _) (by simpa using hlt3) _) hs3
          · exact own_base (base' := w.heap.size) (ownsRow_setCell_below (ownsRow_setCell_below (ownsRow_setCell_below HR.out.2.2 (by simpa using hlt3) _) (by simpa using hlt3) _) (by simpa using hlt3) _) hs3
      · have hnz : fracTop t b ≠ 0 := fun h => ht0 ((fracTop_zero l3).1 h)
        have HAN := Lib.hid (add_new s _ _ _ _ w1.heap.size 0 _ w2 hm (by omega) HM2.out hnot HF2.out hnz)
        obtain ⟨q1, q2⟩ := frac_le t b l1 l2 l3 l4
        have HX : Hid (OneOut w s.data.toList t b = fun e w' => Below w.heap.size w w' ∧ ∃ v0 v1 v2, e = .returned (.tuple #[.agg #[v0, v1, v2], .bool true]) ∧ w'.ownsRow w.heap.size 9 1 v0 1 [.string ⟨s.data.toList.toArray⟩] ∧ w'.ownsRow w.heap.size 3 1 v1 1 [.int .i64 (if t < 0 then -(fracTop t b : Int) else (fracTop t b : Int))] ∧ w'.ownsRow w.heap.size 3 1 v2 1 [.int .i64 (fracBot t b : Int)] ∧ ∀ q, v1.ownBlock = some q → v2.ownBlock ≠ some q) := by
          show _ = _
          funext e w'
          unfold OneOut
          rw [HTO.out, HSM.out, decide_eq_false ht0]
          rfl
        clear hnz hnot ht0
        go_wp2_with fail
        refine HAN.out.mono ?_
        rintro e w3 ⟨rfl, hg3, ho3⟩
        have HB3 : Hid (Below w.heap.size w w3) := by
          have h1 := HB2.out
          refine ⟨hg3.os.trans h1.os, hg3.tape.trans h1.tape, hg3.output.trans h1.output, Nat.le_trans h1.size hg3.size, fun q hq => ?_⟩
          rw [hg3.block q (by have := h1.size; omega) (by intro e; injection e with e; omega)]
          exact h1.block q hq
        have HH3 := Lib.hid (HH2.out.grown hg3 (by intro e; injection e with e; omega))
        have hf3 := HF2.out.grown (fun g o y e => cell_ne_map HM2.out e) hg3
        have HSU := Lib.hid (sum_any w1.heap.size 1 _ (fun _ => (decide (t < 0), fracTop t b, fracBot t b)) [s.data.toList] w3 (by omega) (fun ss hss => by
          have h6 : strKeys ((.map [] : DataW Value).put (.string s.data.toList) (.held (.agg #[.bool (decide (t < 0)), .slice A5 n5 c5, .slice A6 n6 c6]))) = [s.data.toList] := by rfl
          rw [h6] at hss
          rw [List.perm_singleton.1 hss]; simp) rfl (fun key hk => by
            simp only [List.mem_singleton] at hk
            subst hk
            exact ⟨Maps.has_put_same ⟨_, rfl⟩ (by trivial) _, by simpa using hm⟩) ⟨ho3, fun key hk => by
            by_cases he : key = s.data.toList
            · subst he
              exact ⟨_, fun z => Maps.atKey_put_same ⟨_, rfl⟩ (by trivial) _ _, hf3⟩
            · have hkk : (Lit.string key) ≠ Lit.string s.data.toList := by intro e; injection e with e; exact he e
              rw [Maps.has_put_other hkk] at hk
              simp [Maps.has] at hk⟩)
        have HSO : Hid (∀ e w', SumOut w3 [s.data.toList] (fun _ => (decide (t < 0), fracTop t b, fracBot t b)) e w' = (Below w3.heap.size w3 w' ∧ ∃ v0 v1 v2, e = .returned (.tuple #[.agg #[v0, v1, v2], .bool true]) ∧ w'.ownsRow w3.heap.size 9 1 v0 1 [.string ⟨s.data.toList.toArray⟩] ∧ w'.ownsRow w3.heap.size 3 1 v1 1 [.int .i64 (if t < 0 then -(fracTop t b : Int) else (fracTop t b : Int))] ∧ w'.ownsRow w3.heap.size 3 1 v2 1 [.int .i64 (fracBot t b : Int)] ∧ ∀ q, v1.ownBlock = some q → v2.ownBlock ≠ some q)) := fun e w' => by
          have e5 : ([s.data.toList].all (smallC (fun _ => (decide (t < 0), fracTop t b, fracBot t b)))) = true := by simp [smallC, q1, q2]
          unfold SumOut
          rw [e5]
          simp [intv, topC, botC, encStr]
        clear hg3 ho3 hf3 q1 q2
        go_wp2_with fail
        refine HSU.out.mono ?_
        intro e w4 hq
        rw [HSO.out] at hq
        obtain ⟨hb4, v0, v1, v2, rfl, r0, r1, r2, r12⟩ := hq
        obtain ⟨A0, d0, rfl⟩ := own_shape r0
        obtain ⟨A1, d1, rfl⟩ := own_shape r1
        obtain ⟨A2, d2, rfl⟩ := own_shape r2
        have HB4 := Lib.hid (HB3.out.trans (hb4.mono HB3.out.size))
        have hh4 := HH3.out.below hb4 HH3.out.lt
        obtain ⟨z0, z1, z2, y0, y1, y2⟩ := blk_three' hh4
        obtain ⟨u0, u1, u2⟩ := blk_three (set3_blk hh4 (.slice A0 1 d0) (.slice A1 1 d1) (.slice A2 1 d2))
        have HR := Lib.hid (And.intro r0 (And.intro r1 r2))
        have HR12 := Lib.hid r12
        have hs3 := HB3.out.size
        have hlt3 := HH3.out.lt
        clear hb4 hh4 r0 r1 r2 r12
        go_wp2_with fail
        refine bodyPost_ret (v := .tuple #[.agg #[.slice A0 1 d0, .slice A1 1 d1, .slice A2 1 d2], .bool true]) ?_ rfl ?_
        · simp [results, Tryz.results11, go_sem, u0, u1, u2]
        · rw [HX.out]
          refine ⟨((HB4.out.setCell (by simp) _).setCell (by simp) _).setCell (by simp) _, _, _, _, rfl, ?_, ?_, ?_, HR12.out⟩
          · exact own_base (base' := w.heap.size) (ownsRow_setCell_below (ownsRow_setCell_below (ownsRow_setCell_below HR.out.1 (by simpa using hlt3) _) (by simpa using hlt3) _) (by simpa using hlt3) _) hs3
          · exact own_base (base' := w.heap.size) (ownsRow_setCell_below (ownsRow_setCell_below (ownsRow_setCell_below HR.out.2.1 (by simpa using hlt3) _) (by simpa using hlt3) _) (by simpa using hlt3) _) hs3
          · exact own_base (base' := w.heap.size) (ownsRow_setCell_below (ownsRow_setCell_below (ownsRow_setCell_below HR.out.2.2 (by simpa using hlt3) _) (by simpa using hlt3) _) (by simpa using hlt3) _) hs3

end Go.Proofs.YtopmkddmllmecaaGreatDoor
