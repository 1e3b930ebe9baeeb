/- The program's sums on the way: isZero, add of a term that is new. -/
import Derived.Test.YtopmkddmllmecaaGreatDoorPtI
namespace Go.Proofs.YtopmkddmllmecaaGreatDoor
open Go.RowKit Rt Go.Lib
open Go.ChangeMaps Go.MapKept Go.Maps Go.WideMaps

set_option maxHeartbeats 800000 in
set_option maxRecDepth 100000 in
theorem isZero_any (v : Value) (s : Bool) (t b : Nat) (w : World) (hf : FracRep w v s t b) :
    Calls Tryz.prog 72 #[v] w fun e w' => e = .returned (.bool (decide (t = 0))) ∧ Below w.heap.size w w' := by
  obtain ⟨x, y, rfl, hx, hy⟩ := hf
  obtain ⟨A1, n1, c1, rfl, -, -, e0, -⟩ := hx.shape
  obtain ⟨A2, n2, c2, rfl, -, -, -, -⟩ := hy.shape
  have d1 : ((n1 : Int) == 0) = decide (t = 0) := by
    by_cases h : n1 = 0
    · rw [decide_eq_true (e0.1 h), h]; rfl
    · rw [decide_eq_false (fun e => h (e0.2 e))]; simpa using h
  generalize decide (t = 0) = z at d1 ⊢
  clear hx hy e0
  go_enter Tryz.func72, Tryz.ntmps72
  go_wp2_with fail
  go_ret
  exact ⟨rfl, by go_grown⟩

theorem grown_of_below {w w2 w3 : World} {mm : Nat} (hb : Below w.heap.size w w2) (hg : w2.grownBy w3 (some mm)) : w.grownBy w3 (some mm) :=
  ⟨hg.os.trans hb.os, hg.tape.trans hb.tape, hg.output.trans hb.output, Nat.le_trans hb.size hg.size, fun q hq hne => (hg.block q (Nat.lt_of_lt_of_le hq hb.size) hne).trans (hb.block q hq)⟩

/-- What add gives. -/
def AddPost (w : World) (mm k : Nat) (D : DataW Value) (key : B) (v : Value) (e : Ending) (w' : World) : Prop :=
  e = .returned (.tuple #[]) ∧ w.grownBy w' (some mm) ∧ w'.ownsMap Tryz.prog 9 RV mm (k + 1) (D.put (.string key) (.held v))

set_option maxHeartbeats 1600000 in
set_option maxRecDepth 100000 in
theorem add_new (key : ByteArray) (v : Value) (s : Bool) (t b mm k : Nat) (D : DataW Value) (w : World) (hm : key.size ≤ maxLen) (hk : k < 1000000) (hown : w.ownsMap Tryz.prog 9 RV mm k D) (hnot : Maps.has D (.string key.data.toList) = false) (hf : FracRep w v s t b) (ht : t ≠ 0) :
    Calls Tryz.prog 40 #[.map (some mm), .string key, v] w (AddPost w mm k D key.data.toList v) := by
  have hf0 := hf
  obtain ⟨x, y, rfl, hx, hy⟩ := hf
  obtain ⟨A1, n1, c1, rfl, -, -, -, -⟩ := hx.shape
  obtain ⟨A2, n2, c2, rfl, -, -, -, -⟩ := hy.shape
  have hkey : keyOf Tryz.prog 9 (.string key) = some (.string key.data.toList) := keyOf_string_mk Tryz.underlying9 hm
  have hba : Below w.heap.size w (w.alloc (.cells #[.bool s, .slice A1 n1 c1, .slice A2 n2 c2] 58)) := by go_grown
  have hown1 := ownsMap_same (hba.block mm hown.lt) hown
  obtain ⟨u, ps, hrun, hv⟩ := hown1.look_ok (t := 53) (string_keyed Tryz.underlying9) Tryz.underlying53 (zeroFrac _) (zd := .held (.agg #[.bool false, .slice none 0 0, .slice none 0 0])) (zp := []) rfl hkey
  have hv2 : u = .agg #[.bool false, .slice none 0 0, .slice none 0 0] := by
    have h5 := Maps.atKey_of_not_has (D := D) hnot (.held (.agg #[.bool false, .slice none 0 0, .slice none 0 0]))
    rw [h5] at hv
    simp only [RV, Option.some.injEq, Prod.mk.injEq, DataW.held.injEq] at hv
    exact hv.1
  subst hv2
  rw [hnot] at hrun
  have hbb : Below w.heap.size w ((w.alloc (.cells #[.bool s, .slice A1 n1 c1, .slice A2 n2 c2] 58)).alloc (.cells #[.bool false, .slice none 0 0, .slice none 0 0] 58)) := by go_grown
  have HIZ := Lib.hid (isZero_any (.agg #[.bool s, .slice A1 n1 c1, .slice A2 n2 c2]) s t b _ (hf0.below hbb))
  have HBB := Lib.hid hbb
  have HOWN := Lib.hid hown
  have HKEY := Lib.hid hkey
  have HBX := Lib.hid ((Blk.new w 58 #[.bool s, .slice A1 n1 c1, .slice A2 n2 c2]).alloc (.cells #[.bool false, .slice none 0 0, .slice none 0 0] 58))
  have hz : decide (t = 0) = false := by simpa using ht
  rw [hz] at HIZ
  clear hx hy hf0 hown hown1 hkey hba hbb hv hnot hz
  go_enter Tryz.func40, Tryz.ntmps40
  go_wp2_with fail
  refine HIZ.out.mono ?_
  rintro e w2 ⟨rfl, hb2⟩
  have hbx := HBX.out.below hb2 HBX.out.lt
  obtain ⟨a0, a1, a2⟩ := blk_three hbx
  have hB2 := HBB.out.trans (hb2.mono HBB.out.size)
  have hown2 := ownsMap_same (hB2.block mm HOWN.out.lt) HOWN.out
  obtain ⟨w3, hrun3, hown3, hg3⟩ := World.ownsMap.update (t := 53) (e := 58) (w := w2) hown2 (string_keyed Tryz.underlying9) Tryz.underlying53 (by unfold maxLen; omega) HKEY.out (val := .agg #[.bool s, .slice A1 n1 c1, .slice A2 n2 c2]) (d := .held (.agg #[.bool s, .slice A1 n1 c1, .slice A2 n2 c2])) (ps := []) rfl
  have HR3 := Lib.hid (And.intro hown3 (grown_of_below hB2 hg3))
  clear hbx hb2 hB2 hown2 hown3 hg3 hrun
  go_wp2_with fail
  refine bodyPost_ret (v := .tuple #[]) ?_ rfl ?_
  · simp [results, Tryz.results40, go_sem]
  · exact ⟨rfl, HR3.out.2, HR3.out.1⟩

end Go.Proofs.YtopmkddmllmecaaGreatDoor
