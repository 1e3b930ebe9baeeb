/- The program's sum: a sum on the way comes out. -/
import Derived.Test.YtopmkddmllmecaaGreatDoorTxA
import Derived.Test.YtopmkddmllmecaaGreatDoorPtN
import Derived.Test.YtopmkddmllmecaaGreatDoorOwA
namespace Go.Proofs.YtopmkddmllmecaaGreatDoor
open Go.RowKit Rt Go.Lib Go.Maps Go.Sort
open Go.ChangeMaps Go.MapKept Go.WideMaps

/-- The fractions of a sum on the way, by the texts of its terms. -/
def FM (w : World) (mm k : Nat) (D : DataW Value) (c : B → Bool × Nat × Nat) : Prop :=
  w.ownsMap Tryz.prog 9 RV mm k D ∧ ∀ key : B, Maps.has D (.string key) = true → ∃ v, (∀ z, D.atKey (.string key) z = .held v) ∧ FracRep w v (c key).1 (c key).2.1 (c key).2.2

theorem FM.below {w w' : World} {mm k : Nat} {D : DataW Value} {c : B → Bool × Nat × Nat} (h : FM w mm k D c) (hb : Below w.heap.size w w') : FM w' mm k D c :=
  ⟨ownsMap_same (hb.block mm h.1.lt) h.1, fun key hk => by
    obtain ⟨v, a, f⟩ := h.2 key hk
    exact ⟨v, a, f.below hb⟩⟩

/-- A fraction whose parts are not too large. -/
def smallC (c : B → Bool × Nat × Nat) (key : B) : Bool := decide ((c key).2.1 ≤ 1000000000) && decide ((c key).2.2 ≤ 1000000000)
def topC (c : B → Bool × Nat × Nat) (key : B) : Int := if (c key).1 then -((c key).2.1 : Int) else ((c key).2.1 : Int)
def botC (c : B → Bool × Nat × Nat) (key : B) : Int := ((c key).2.2 : Int)

/-- What sum gives. -/
def SumOut (w : World) (L : List B) (c : B → Bool × Nat × Nat) (e : Ending) (w' : World) : Prop :=
  Below w.heap.size w w' ∧ match decide (L.length ≤ 300) && L.all (smallC c) with
    | true => ∃ v0 v1 v2, e = .returned (.tuple #[.agg #[v0, v1, v2], .bool true]) ∧ w'.ownsRow w.heap.size 9 1 v0 L.length (L.map encStr) ∧ w'.ownsRow w.heap.size 3 1 v1 L.length (intv (L.map (topC c))) ∧ w'.ownsRow w.heap.size 3 1 v2 L.length (intv (L.map (botC c))) ∧ ∀ b, v1.ownBlock = some b → v2.ownBlock ≠ some b
    | false => e = .returned (.tuple #[.agg #[.slice none 0 0, .slice none 0 0, .slice none 0 0], .bool false])

/-- What holds at the head of sum's loop. -/
structure SmRel (w1 wr : World) (q : Nat) (L : List B) (c : B → Bool × Nat × Nat) (j : Nat) (v0 v1 v2 : Value) : Prop where
  le : j ≤ L.length
  ok : ∀ i key, i < j → L[i]? = some key → smallC c key = true
  box : Blk wr q 25 #[v0, v1, v2]
  r0 : wr.ownsRow w1.heap.size 9 1 v0 j ((L.take j).map encStr)
  r1 : wr.ownsRow w1.heap.size 3 1 v1 j (intv ((L.take j).map (topC c)))
  r2 : wr.ownsRow w1.heap.size 3 1 v2 j (intv ((L.take j).map (botC c)))
  n01 : ∀ b, v0.ownBlock = some b → v1.ownBlock ≠ some b
  n02 : ∀ b, v0.ownBlock = some b → v2.ownBlock ≠ some b
  n12 : ∀ b, v1.ownBlock = some b → v2.ownBlock ≠ some b
  grown : w1.grownBy wr (some q)

theorem cell_one_at {w : World} {n : Nat} (hn : n = w.heap.size) (x : Value) (t : TypeId) : ∀ j u, [x][j]? = some u → (w.alloc (.cells #[x] t)).cell? ((⟨n, 0, none⟩ : Addr).add j) = some u := by
  subst hn
  exact cell_one_new w x t

/-- A row beside one that grows. -/
theorem other_row {w w3 : World} {B n : Nat} {e : TypeId} {v u : Value} {vs : List Value} {o : Obj} (h : w.ownsRow B e 1 v n vs) (hg : (w.alloc o).grownBy w3 u.ownBlock) (hne : ∀ b, u.ownBlock = some b → v.ownBlock ≠ some b) (q : Nat) (i : Nat) (x : Value) (hq : q < B) : (w3.setCell ⟨q, i, none⟩ x).ownsRow B e 1 v n vs := by
  refine ownsRow_setCell_below ((h.alloc o).kept hg ?_) hq x
  cases hv : v.ownBlock with
  | none => exact .inl rfl
  | some k =>
    refine .inr (fun e2 => ?_)
    exact hne k e2.symm hv

/-- The box beside a row that grows. -/
theorem box_grown {w w3 : World} {B q : Nat} {t : TypeId} {cs : Array Value} {u : Value} {o : Obj} {n : Nat} {e : TypeId} {vs : List Value} (h : Blk w q t cs) (hr : w.ownsRow B e 1 u n vs) (hg : (w.alloc o).grownBy w3 u.ownBlock) (hq : q < B) (i : Nat) (x : Value) : Blk (w3.setCell ⟨q, i, none⟩ x) q t (cs.setIfInBounds i x) :=
  Blk.set_ (Blk.grown (h.alloc o) hg (fun e2 => by
    have := own_block_lt hr q e2.symm
    omega)) i x

/-- What is below, beside a row that grows. -/
theorem grown_row {w0 w w3 : World} {q n : Nat} {e : TypeId} {u : Value} {vs : List Value} {o : Obj} (h : w0.grownBy w (some q)) (hr : w.ownsRow w0.heap.size e 1 u n vs) (hg : (w.alloc o).grownBy w3 u.ownBlock) (i : Nat) (x : Value) : w0.grownBy (w3.setCell ⟨q, i, none⟩ x) (some q) := by
  have hs := h.size
  refine ⟨hg.os.trans h.os, hg.tape.trans h.tape, hg.output.trans h.output, ?_, fun b hb hne => ?_⟩
  · have := hg.size
    simp at this
    simpa using (by omega : w0.heap.size ≤ w3.heap.size)
  · rw [Below.heap_setCell _ _ _ b (fun e2 => hne (by rw [e2])), hg.block b (by simp; omega) (fun e2 => ?_), Below.heap_alloc w o b (by omega)]
    · exact h.block b hb hne
    · have := own_block_lt hr b e2.symm
      omega

/-- Where a row that grew lies. -/
theorem fresh_ne {w : World} {B m : Nat} {e2 : TypeId} {v v' u : Value} {us : List Value} (hat : v'.ownBlock = v.ownBlock ∨ v'.ownBlock = some (w.heap.size + 1)) (hu : w.ownsRow B e2 1 u m us) (hne : ∀ b, v.ownBlock = some b → u.ownBlock ≠ some b) : ∀ b, v'.ownBlock = some b → u.ownBlock ≠ some b := by
  intro b hb hb2
  have h1 := own_block_lt hu b hb2
  rcases hat with h | h
  · exact hne b (h ▸ hb) hb2
  · rw [h] at hb
    injection hb with hb
    omega

set_option maxHeartbeats 6400000 in
set_option maxRecDepth 100000 in
theorem sum_any (mm k : Nat) (D : DataW Value) (c : B → Bool × Nat × Nat) (L : List B) (w : World) (hk : k < 1000000) (hL : ∀ ss : List B, ss.Perm (strKeys D) → ss.mergeSort (fun x y => decide (x ≤ y)) = L) (hsz : Maps.size D = L.length) (hmem : ∀ key ∈ L, Maps.has D (.string key) = true ∧ key.length ≤ maxLen) (hM : FM w mm k D c) :
    Calls Tryz.prog 42 #[.map (some mm)] w (SumOut w L c) := by
  have HM := Lib.hid hM
  have HL := Lib.hid hL
  have HMEM := Lib.hid hmem
  have HX0 : Hid (¬ L.length ≤ 300 → SumOut w L c = fun e w' => Below w.heap.size w w' ∧ e = .returned (.tuple #[.agg #[.slice none 0 0, .slice none 0 0, .slice none 0 0], .bool false])) := by
    intro h
    funext e w'
    unfold SumOut
    rw [decide_eq_false h]
    rfl
  have hlen := (hM.1.alloc (.cells #[.slice none 0 0, .slice none 0 0, .slice none 0 0] 25)).len (t := 53) Tryz.underlying53 3
  rw [hsz] at hlen
  clear hM hL hmem hsz
  by_cases h3 : L.length ≤ 300
  · have d1 : decide ((L.length : Int) > 300) = false := by rw [decide_eq_false_iff_not]; omega
    go_enter Tryz.func42, Tryz.ntmps42
    go_wp2_with fail
    have hw0 : Below w.heap.size w ((w.alloc (.cells #[.slice none 0 0, .slice none 0 0, .slice none 0 0] 25)).alloc (.cells #[.slice none 0 0, .slice none 0 0, .slice none 0 0] 25)) := by go_grown
    have hq0 : Blk ((w.alloc (.cells #[.slice none 0 0, .slice none 0 0, .slice none 0 0] 25)).alloc (.cells #[.slice none 0 0, .slice none 0 0, .slice none 0 0] 25)) (w.heap.size + 1) 25 #[.slice none 0 0, .slice none 0 0, .slice none 0 0] := by
      have h := Blk.new (w.alloc (.cells #[.slice none 0 0, .slice none 0 0, .slice none 0 0] 25)) 25 #[.slice none 0 0, .slice none 0 0, .slice none 0 0]
      simpa using h
    have hh0 : Blk ((w.alloc (.cells #[.slice none 0 0, .slice none 0 0, .slice none 0 0] 25)).alloc (.cells #[.slice none 0 0, .slice none 0 0, .slice none 0 0] 25)) w.heap.size 25 #[.slice none 0 0, .slice none 0 0, .slice none 0 0] := (Blk.new w 25 _).alloc _
    have hz0 : ((w.alloc (.cells #[.slice none 0 0, .slice none 0 0, .slice none 0 0] 25)).alloc (.cells #[.slice none 0 0, .slice none 0 0, .slice none 0 0] 25)).heap.size = w.heap.size + 2 := by simp
    have HT := Lib.hid (texts_any mm k D _ hk (HM.out.below hw0).1)
    generalize ((w.alloc (.cells #[.slice none 0 0, .slice none 0 0, .slice none 0 0] 25)).alloc (.cells #[.slice none 0 0, .slice none 0 0, .slice none 0 0] 25)) = W0 at *
    refine HT.out.mono ?_
    rintro e w1 ⟨vt, ss, rfl, hperm, hrow, hb1⟩
    have hsl : ss.length = L.length := by rw [← HL.out ss hperm]; exact (List.length_mergeSort ss).symm
    rw [HL.out ss hperm, hsl, hz0] at hrow
    have hs1 := hb1.size
    rw [hz0] at hs1
    obtain ⟨At, ct, rfl⟩ := own_shape hrow
    have HB1 := Lib.hid (hw0.trans (hb1.mono (by omega)))
    have HQ := Lib.hid (hq0.below hb1 (by omega))
    have HH := Lib.hid (hh0.below hb1 (by omega))
    have HROW := Lib.hid hrow
    have HX1 : Hid (L.all (smallC c) = true → SumOut w L c = fun e w' => Below w.heap.size w w' ∧ ∃ v0 v1 v2, e = .returned (.tuple #[.agg #[v0, v1, v2], .bool true]) ∧ w'.ownsRow w.heap.size 9 1 v0 L.length (L.map encStr) ∧ w'.ownsRow w.heap.size 3 1 v1 L.length (intv (L.map (topC c))) ∧ w'.ownsRow w.heap.size 3 1 v2 L.length (intv (L.map (botC c))) ∧ ∀ b, v1.ownBlock = some b → v2.ownBlock ≠ some b) := by
      intro h
      funext e w'
      unfold SumOut
      rw [decide_eq_true h3, h]
      rfl
    have HX2 : Hid (L.all (smallC c) = false → SumOut w L c = fun e w' => Below w.heap.size w w' ∧ e = .returned (.tuple #[.agg #[.slice none 0 0, .slice none 0 0, .slice none 0 0], .bool false])) := by
      intro h
      funext e w'
      unfold SumOut
      rw [h, Bool.and_false]
    have HOWN : Hid (∀ i key, L[i]? = some key → ∃ g, At = some ⟨g, 0, none⟩ ∧ w.heap.size + 2 ≤ g ∧ w1.cell? ⟨g, i, none⟩ = some (.string ⟨key.toArray⟩)) := by
      intro i key hi
      have hpos : 0 < L.length := by have := (List.getElem?_eq_some_iff.1 hi).1; omega
      obtain ⟨g, e1, _, _, _, _, h5⟩ := own_cells hrow hpos
      refine ⟨g, e1, ?_, ?_⟩
      · exact (own_block_lt hrow g (by rw [e1]; rfl)).1
      · refine h5 i _ ?_
        rw [List.getElem?_map, hi]
        rfl
    clear hw0 hq0 hh0 hz0 HT hperm hrow hb1 hlen hsl
    go_wp2_with fail
    go_loopw [18] (fun iv wr => ∃ j v0 v1 v2, iv = .int .i64 (j : Nat) ∧ Hid (SmRel w1 wr (w.heap.size + 1) L c j v0 v1 v2)) (fun iv _ => L.length - (intOf iv).toNat)
    case atStart =>
      exact ⟨0, .slice none 0 0, .slice none 0 0, .slice none 0 0, rfl, ⟨Nat.zero_le _, fun i key hi => by omega, HQ.out, World.ownsRow_nil _ _ _ _, World.ownsRow_nil _ _ _ _, World.ownsRow_nil _ _ _ _, fun b h => by simp [Value.ownBlock] at h, fun b h => by simp [Value.ownBlock] at h, fun b h => by simp [Value.ownBlock] at h, ⟨rfl, rfl, rfl, Nat.le_refl _, fun _ _ _ => rfl⟩⟩⟩
    case round =>
      obtain ⟨j, v0, v1, v2, rfl, hrel⟩ := hrel
      have hj := hrel.out.le
      have hgr := hrel.out.grown
      have hBw : Below w.heap.size w wr := ⟨hgr.os.trans HB1.out.os, hgr.tape.trans HB1.out.tape, hgr.output.trans HB1.out.output, Nat.le_trans HB1.out.size hgr.size, fun b hb => (hgr.block b (by omega) (by intro e; injection e with e; omega)).trans (HB1.out.block b hb)⟩
      have hhr : Blk wr w.heap.size 25 #[.slice none 0 0, .slice none 0 0, .slice none 0 0] := HH.out.grown hgr (by intro e; injection e with e; omega)
      obtain ⟨A0, d0, hv0⟩ := own_shape hrel.out.r0
      obtain ⟨A1, d1', hv1⟩ := own_shape hrel.out.r1
      obtain ⟨A2, d2, hv2⟩ := own_shape hrel.out.r2
      subst hv0
      subst hv1
      subst hv2
      have HBW := Lib.hid hBw
      have HHR := Lib.hid hhr
      have HBOX := Lib.hid hrel.out.box
      by_cases hlt : j < L.length
      · obtain ⟨key, hkey⟩ : ∃ key, L[j]? = some key := ⟨_, List.getElem?_eq_getElem hlt⟩
        obtain ⟨g, rfl, hg2, hc1⟩ := HOWN.out j key hkey
        have e1 : wr.cell? ⟨g, j, none⟩ = some (.string ⟨key.toArray⟩) := grown_cell hgr (by omega) hc1
        obtain ⟨hhas, hkl⟩ := HMEM.out key (List.mem_of_getElem? hkey)
        have hM2 := HM.out.below hBw
        have hko : keyOf Tryz.prog 9 (.string ⟨key.toArray⟩) = some (.string key) := keyOf_string_mk Tryz.underlying9 (by simpa [ByteArray.size] using hkl)
        obtain ⟨v, ps, hrun, hv⟩ := hM2.1.lookup (t := 53) (string_keyed Tryz.underlying9) Tryz.underlying53 (zeroFrac _) (zd := .held (.agg #[.bool false, .slice none 0 0, .slice none 0 0])) (zp := []) rfl hko
        obtain ⟨v', h4, hf⟩ := hM2.2 key hhas
        have hvv : v = v' := by
          rw [h4] at hv
          simp only [RV, Option.some.injEq, Prod.mk.injEq, DataW.held.injEq] at hv
          exact hv.1
        subst hvv
        have HF := Lib.hid hf
        have HKEY := Lib.hid hkey
        have hsh := hf
        obtain ⟨x5, y5, rfl, hx5, hy5⟩ := hsh
        obtain ⟨A5, n5, c5, rfl, -, -, -, -⟩ := hx5.shape
        obtain ⟨A6, n6, c6, rfl, -, -, -, -⟩ := hy5.shape
        clear hv h4 hf hx5 hy5 hM2 hc1 hkey hhas hko hgr hBw hhr
        cases hsm : smallC c key
        · have HNO : Hid (L.all (smallC c) = false) := by
            show _ = _
            rw [List.all_eq_false]
            exact ⟨key, List.mem_of_getElem? HKEY.out, by simp [hsm]⟩
          have hnb : ¬ ((c key).2.1 ≤ 1000000000 ∧ (c key).2.2 ≤ 1000000000) := by
            rintro ⟨a, b⟩
            unfold smallC at hsm
            rw [decide_eq_true a, decide_eq_true b] at hsm
            cases hsm
          have HP := Lib.hid (parts_no _ _ _ _ wr hnb HF.out)
          clear hsm hnb
          go_wp2_with fail
          refine HP.out.mono ?_
          rintro e w2 ⟨rfl, hb2⟩
          have hh2 := HHR.out.below hb2 HHR.out.lt
          obtain ⟨z0, z1, z2, y0, y1, y2⟩ := blk_three' hh2
          have HB2 := Lib.hid (HBW.out.trans (hb2.mono HBW.out.size))
          obtain ⟨u0, u1, u2⟩ := blk_three (set3_blk hh2 (.slice none 0 0) (.slice none 0 0) (.slice none 0 0))
          clear hb2 hh2
          go_wp2_with fail
          refine bodyPost_ret (v := .tuple #[.agg #[.slice none 0 0, .slice none 0 0, .slice none 0 0], .bool false]) ?_ rfl ?_
          · simp [results, Tryz.results42, go_sem, u0, u1, u2]
          · rw [HX2.out HNO.out]
            exact ⟨((HB2.out.setCell (by simp) _).setCell (by simp) _).setCell (by simp) _, rfl⟩
        · have hnb : (c key).2.1 ≤ 1000000000 ∧ (c key).2.2 ≤ 1000000000 := by
            unfold smallC at hsm
            simpa only [Bool.and_eq_true, decide_eq_true_eq] using hsm
          have hpt : Calls Tryz.prog 76 #[.agg #[.bool (c key).1, .slice A5 n5 c5, .slice A6 n6 c6]] wr fun e w' => e = .returned (.tuple #[.int .i64 (topC c key), .int .i64 (botC c key), .bool true]) ∧ Below wr.heap.size wr w' := parts_any _ _ _ _ wr hnb.1 hnb.2 HF.out
          have HP := Lib.hid hpt
          have HSM := Lib.hid hsm
          obtain ⟨T, hT⟩ : ∃ T, T = topC c key := ⟨_, rfl⟩
          obtain ⟨Z, hZ⟩ : ∃ Z, Z = botC c key := ⟨_, rfl⟩
          rw [← hT, ← hZ] at HP
          have HTT := Lib.hid hT
          have HZZ := Lib.hid hZ
          obtain ⟨i0, hi0, hz0, hz1, hz2⟩ := info_parts text_info
          obtain ⟨k0, hk0, hy0, hy1, hy2⟩ := info_parts int_info
          clear hsm hnb hpt hT hZ
          go_wp2_with fail
          refine HP.out.mono ?_
          rintro e w2 ⟨rfl, hb2⟩
          have hs2 := hb2.size
          have hsr := hrel.out.grown.size
          have R0 := Lib.hid (own_any hrel.out.r0 hb2)
          have R1 := Lib.hid (own_any hrel.out.r1 hb2)
          have R2 := Lib.hid (own_any hrel.out.r2 hb2)
          obtain ⟨X0, hX0⟩ : ∃ X, X = (L.take j).map encStr := ⟨_, rfl⟩
          obtain ⟨X1, hX1⟩ : ∃ X, X = intv ((L.take j).map (topC c)) := ⟨_, rfl⟩
          obtain ⟨X2, hX2⟩ : ∃ X, X = intv ((L.take j).map (botC c)) := ⟨_, rfl⟩
          rw [← hX0] at R0
          rw [← hX1] at R1
          rw [← hX2] at R2
          have HX0' := Lib.hid hX0
          have HX1' := Lib.hid hX1
          have HX2' := Lib.hid hX2
          clear hX0 hX1 hX2
          have G2 : Hid (w1.grownBy w2 (some (w.heap.size + 1))) := hrel.out.grown.trans (below_grown hb2 _)
          have hbx := HBOX.out.below hb2 HBOX.out.lt
          have HBX := Lib.hid hbx
          have N01 := Lib.hid hrel.out.n01
          have N02 := Lib.hid hrel.out.n02
          have N12 := Lib.hid hrel.out.n12
          obtain ⟨z0, z1, z2, y0, y1, y2⟩ := blk_three' hbx
          clear hb2 hbx
          go_wp2_with (at_builtin; refine wpList_append_own_at _ rfl _ _ 22 rfl w1.heap.size 9 i0 (.string ⟨#[]⟩) 1 16 Tryz.underlying22 hi0 hz0 hz1 hz2 rfl (Nat.succ_pos 0) (.slice A0 j d0) j X0 rfl (R0.out.alloc _) ⟨w2.heap.size, 0, none⟩ 1 1 [.string ⟨key.toArray⟩] rfl rfl (cell_one_new _ _ _) ?_ ?_ ?_ ?_ ?_)
          · intro u' hu'
            simp at hu'; subst hu'; rfl
          · unfold maxLen; omega
          · omega
          · simp; omega
          · intro v0' y0 hown3 hg3 _ hat3
            obtain ⟨B0, f0, hsv⟩ := own_shape hown3
            subst hsv
            have hat4 : Value.ownBlock (.slice B0 (j + 1) f0) = Value.ownBlock (.slice A0 j d0) ∨ Value.ownBlock (.slice B0 (j + 1) f0) = some (w2.heap.size + 1) := by simpa using hat3
            have Q0 : Hid ((y0.setCell ⟨w.heap.size + 1, 0, none⟩ (.slice B0 (j + 1) f0)).ownsRow w1.heap.size 9 1 (.slice B0 (j + 1) f0) (j + 1) (X0 ++ [.string ⟨key.toArray⟩])) := ownsRow_setCell_below hown3 (by simp; omega) _
            have R1n := Lib.hid (other_row R1.out hg3 N01.out (w.heap.size + 1) 0 (.slice B0 (j + 1) f0) (by omega))
            have R2n := Lib.hid (other_row R2.out hg3 N02.out (w.heap.size + 1) 0 (.slice B0 (j + 1) f0) (by omega))
            have M01 := Lib.hid (fresh_ne hat4 R1.out N01.out)
            have M02 := Lib.hid (fresh_ne hat4 R2.out N02.out)
            have M12 := N12
            have hbx9 := box_grown HBX.out R0.out hg3 (by omega) 0 (.slice B0 (j + 1) f0)
            have HBXn : Hid (Blk (y0.setCell ⟨w.heap.size + 1, 0, none⟩ (.slice B0 (j + 1) f0)) (w.heap.size + 1) 25 #[.slice B0 (j + 1) f0, .slice A1 j d1', .slice A2 j d2]) := (by simpa using hbx9 : Blk (y0.setCell ⟨w.heap.size + 1, 0, none⟩ (.slice B0 (j + 1) f0)) (w.heap.size + 1) 25 #[.slice B0 (j + 1) f0, .slice A1 j d1', .slice A2 j d2])
            have Gn := Lib.hid (grown_row G2.out R0.out hg3 0 (.slice B0 (j + 1) f0))
            have hbz : Blk y0 (w.heap.size + 1) 25 #[.slice A0 j d0, .slice A1 j d1', .slice A2 j d2] := Blk.grown (HBX.out.alloc _) hg3 (fun e2 => by have := own_block_lt R0.out (w.heap.size + 1) e2.symm; omega)
            obtain ⟨z0, z1, z2, y0', y1', y2'⟩ := blk_three' hbz
            clear hown3 hg3 hat3 hat4 hbx9 hbz
            have R1 := R1n
            have R2 := R2n
            have N01 := M01
            have N02 := M02
            have N12 := M12
            have HBX := HBXn
            have G2 := Gn
            have hsz0 : w1.heap.size ≤ (y0.setCell ⟨w.heap.size + 1, 0, none⟩ (.slice B0 (j + 1) f0)).heap.size := G2.out.size
            simp at hsz0
            obtain ⟨m0, m1, m2, l0, l1, l2⟩ := blk_three' HBX.out
            go_wp2_with (at_builtin; refine wpList_append_own_at _ rfl _ _ 23 rfl w1.heap.size 3 k0 (.int .i64 0) 1 8 Tryz.underlying23 hk0 hy0 hy1 hy2 rfl (Nat.succ_pos 0) (.slice A1 j d1') j X1 rfl (R1.out.alloc _) ⟨y0.heap.size, 0, none⟩ 1 1 [.int .i64 T] rfl rfl (cell_one_at (by simp) _ _) ?_ ?_ ?_ ?_ ?_)
            · intro u' hu'
              simp at hu'; subst hu'; rfl
            · unfold maxLen; omega
            · omega
            · simp; omega
            · intro v1' y1 hown3 hg3 _ hat3
              obtain ⟨B1, f1, hsv⟩ := own_shape hown3
              subst hsv
              have hat4 : Value.ownBlock (.slice B1 (j + 1) f1) = Value.ownBlock (.slice A1 j d1') ∨ Value.ownBlock (.slice B1 (j + 1) f1) = some ((y0.setCell ⟨w.heap.size + 1, 0, none⟩ (.slice B0 (j + 1) f0)).heap.size + 1) := by simpa using hat3
              have Q1 : Hid ((y1.setCell ⟨w.heap.size + 1, 1, none⟩ (.slice B1 (j + 1) f1)).ownsRow w1.heap.size 3 1 (.slice B1 (j + 1) f1) (j + 1) (X1 ++ [.int .i64 T])) := ownsRow_setCell_below hown3 (by simp; omega) _
              have Q0n := Lib.hid (other_row Q0.out hg3 (fun x h h2 => N01.out x h2 h) (w.heap.size + 1) 1 (.slice B1 (j + 1) f1) (by omega))
              have R2n := Lib.hid (other_row R2.out hg3 N12.out (w.heap.size + 1) 1 (.slice B1 (j + 1) f1) (by omega))
              have M01 : Hid (∀ b, Value.ownBlock (.slice B0 (j + 1) f0) = some b → Value.ownBlock (.slice B1 (j + 1) f1) ≠ some b) := fun b h h2 => fresh_ne hat4 Q0.out (fun x h h2 => N01.out x h2 h) b h2 h
              have M12 := Lib.hid (fresh_ne hat4 R2.out N12.out)
              have M02 := N02
              have hbx9 := box_grown HBX.out R1.out hg3 (by omega) 1 (.slice B1 (j + 1) f1)
              have HBXn : Hid (Blk (y1.setCell ⟨w.heap.size + 1, 1, none⟩ (.slice B1 (j + 1) f1)) (w.heap.size + 1) 25 #[.slice B0 (j + 1) f0, .slice B1 (j + 1) f1, .slice A2 j d2]) := (by simpa using hbx9 : Blk (y1.setCell ⟨w.heap.size + 1, 1, none⟩ (.slice B1 (j + 1) f1)) (w.heap.size + 1) 25 #[.slice B0 (j + 1) f0, .slice B1 (j + 1) f1, .slice A2 j d2])
              have Gn := Lib.hid (grown_row G2.out R1.out hg3 1 (.slice B1 (j + 1) f1))
              have hbz : Blk y1 (w.heap.size + 1) 25 #[.slice B0 (j + 1) f0, .slice A1 j d1', .slice A2 j d2] := Blk.grown (HBX.out.alloc _) hg3 (fun e2 => by have := own_block_lt R1.out (w.heap.size + 1) e2.symm; omega)
              obtain ⟨z0, z1, z2, y0', y1', y2'⟩ := blk_three' hbz
              clear hown3 hg3 hat3 hat4 hbx9 hbz
              have Q0 := Q0n
              have R2 := R2n
              have N01 := M01
              have N02 := M02
              have N12 := M12
              have HBX := HBXn
              have G2 := Gn
              have hsz1 : w1.heap.size ≤ (y1.setCell ⟨w.heap.size + 1, 1, none⟩ (.slice B1 (j + 1) f1)).heap.size := G2.out.size
              simp at hsz1
              clear m0 m1 m2 l0 l1 l2
              obtain ⟨m0, m1, m2, l0, l1, l2⟩ := blk_three' HBX.out
              go_wp2_with (at_builtin; refine wpList_append_own_at _ rfl _ _ 23 rfl w1.heap.size 3 k0 (.int .i64 0) 1 8 Tryz.underlying23 hk0 hy0 hy1 hy2 rfl (Nat.succ_pos 0) (.slice A2 j d2) j X2 rfl (R2.out.alloc _) ⟨y1.heap.size, 0, none⟩ 1 1 [.int .i64 Z] rfl rfl (cell_one_at (by simp) _ _) ?_ ?_ ?_ ?_ ?_)
              · intro u' hu'
                simp at hu'; subst hu'; rfl
              · unfold maxLen; omega
              · omega
              · simp; omega
              · intro v2' y2 hown3 hg3 _ hat3
                obtain ⟨B2, f2, hsv⟩ := own_shape hown3
                subst hsv
                have hat4 : Value.ownBlock (.slice B2 (j + 1) f2) = Value.ownBlock (.slice A2 j d2) ∨ Value.ownBlock (.slice B2 (j + 1) f2) = some ((y1.setCell ⟨w.heap.size + 1, 1, none⟩ (.slice B1 (j + 1) f1)).heap.size + 1) := by simpa using hat3
                have Q2 : Hid ((y2.setCell ⟨w.heap.size + 1, 2, none⟩ (.slice B2 (j + 1) f2)).ownsRow w1.heap.size 3 1 (.slice B2 (j + 1) f2) (j + 1) (X2 ++ [.int .i64 Z])) := ownsRow_setCell_below hown3 (by simp; omega) _
                have Q0n := Lib.hid (other_row Q0.out hg3 (fun x h h2 => N02.out x h2 h) (w.heap.size + 1) 2 (.slice B2 (j + 1) f2) (by omega))
                have Q1n := Lib.hid (other_row Q1.out hg3 (fun x h h2 => N12.out x h2 h) (w.heap.size + 1) 2 (.slice B2 (j + 1) f2) (by omega))
                have M02 : Hid (∀ b, Value.ownBlock (.slice B0 (j + 1) f0) = some b → Value.ownBlock (.slice B2 (j + 1) f2) ≠ some b) := fun b h h2 => fresh_ne hat4 Q0.out (fun x h h2 => N02.out x h2 h) b h2 h
                have M12 : Hid (∀ b, Value.ownBlock (.slice B1 (j + 1) f1) = some b → Value.ownBlock (.slice B2 (j + 1) f2) ≠ some b) := fun b h h2 => fresh_ne hat4 Q1.out (fun x h h2 => N12.out x h2 h) b h2 h
                have M01 := N01
                have hbx9 := box_grown HBX.out R2.out hg3 (by omega) 2 (.slice B2 (j + 1) f2)
                have HBXn : Hid (Blk (y2.setCell ⟨w.heap.size + 1, 2, none⟩ (.slice B2 (j + 1) f2)) (w.heap.size + 1) 25 #[.slice B0 (j + 1) f0, .slice B1 (j + 1) f1, .slice B2 (j + 1) f2]) := (by simpa using hbx9 : Blk (y2.setCell ⟨w.heap.size + 1, 2, none⟩ (.slice B2 (j + 1) f2)) (w.heap.size + 1) 25 #[.slice B0 (j + 1) f0, .slice B1 (j + 1) f1, .slice B2 (j + 1) f2])
                have Gn := Lib.hid (grown_row G2.out R2.out hg3 2 (.slice B2 (j + 1) f2))
                have hbz : Blk y2 (w.heap.size + 1) 25 #[.slice B0 (j + 1) f0, .slice B1 (j + 1) f1, .slice A2 j d2] := Blk.grown (HBX.out.alloc _) hg3 (fun e2 => by have := own_block_lt R2.out (w.heap.size + 1) e2.symm; omega)
                obtain ⟨z0, z1, z2, y0', y1', y2'⟩ := blk_three' hbz
                clear hown3 hg3 hat3 hat4 hbx9 hbz
                have Q0 := Q0n
                have Q1 := Q1n
                have N01 := M01
                have N02 := M02
                have N12 := M12
                have HBX := HBXn
                have G2 := Gn
                have hR : Hid (SmRel w1 (y2.setCell ⟨w.heap.size + 1, 2, none⟩ (.slice B2 (j + 1) f2)) (w.heap.size + 1) L c (j + 1) (.slice B0 (j + 1) f0) (.slice B1 (j + 1) f1) (.slice B2 (j + 1) f2)) := by
                  have ht : L.take (j + 1) = L.take j ++ [key] := by rw [List.take_add_one, HKEY.out]; rfl
                  refine ⟨hlt, fun i key2 hi hk2 => ?_, HBX.out, ?_, ?_, ?_, N01.out, N02.out, N12.out, G2.out⟩
                  · by_cases e : i = j
                    · subst e; rw [HKEY.out] at hk2; injection hk2 with hk2; rw [← hk2]; exact HSM.out
                    · exact hrel.out.ok i key2 (by omega) hk2
                  · rw [ht, List.map_append]; have := Q0.out; rw [HX0'.out] at this; exact this
                  · rw [ht, List.map_append]; have := Q1.out; rw [HX1'.out, HTT.out] at this; simpa [intv] using this
                  · rw [ht, List.map_append]; have := Q2.out; rw [HX2'.out, HZZ.out] at this; simpa [intv] using this
                have HRR := Lib.hid hR.out
                go_wp2_with fail
                go_roundw
                case rel => exact ⟨j + 1, _, _, _, by go_num, HRR.out⟩
                case measure => simp [intOf]; omega
      · obtain rfl : j = L.length := by omega
        have HALL : Hid (L.all (smallC c) = true) := by
          show _ = _
          rw [List.all_eq_true]
          intro key hk2
          obtain ⟨i, hi⟩ := List.mem_iff_getElem?.1 hk2
          exact hrel.out.ok i key (List.getElem?_eq_some_iff.1 hi).1 hi
        have hr0 := hrel.out.r0
        have hr1 := hrel.out.r1
        have hr2 := hrel.out.r2
        rw [List.take_of_length_le (Nat.le_refl _)] at hr0 hr1 hr2
        have HR := Lib.hid (And.intro hr0 (And.intro hr1 hr2))
        obtain ⟨p0, p1, p2⟩ := blk_three HBOX.out
        obtain ⟨z0, z1, z2, y0, y1, y2⟩ := blk_three' hhr
        obtain ⟨u0, u1, u2⟩ := blk_three (set3_blk hhr (.slice A0 L.length d0) (.slice A1 L.length d1') (.slice A2 L.length d2))
        clear hr0 hr1 hr2 hgr hBw hhr
        go_wp2_with fail
        refine bodyPost_ret (v := .tuple #[.agg #[.slice A0 L.length d0, .slice A1 L.length d1', .slice A2 L.length d2], .bool true]) ?_ rfl ?_
        · simp [results, Tryz.results42, go_sem, u0, u1, u2]
        · rw [HX1.out HALL.out]
          refine ⟨((HBW.out.setCell (by simp) _).setCell (by simp) _).setCell (by simp) _, _, _, _, rfl, ?_, ?_, ?_, hrel.out.n12⟩
          · exact own_base (base' := w.heap.size) (ownsRow_setCell_below (ownsRow_setCell_below (ownsRow_setCell_below HR.out.1 (by simp; omega) _) (by simp; omega) _) (by simp; omega) _) (by omega)
          · exact own_base (base' := w.heap.size) (ownsRow_setCell_below (ownsRow_setCell_below (ownsRow_setCell_below HR.out.2.1 (by simp; omega) _) (by simp; omega) _) (by simp; omega) _) (by omega)
          · exact own_base (base' := w.heap.size) (ownsRow_setCell_below (ownsRow_setCell_below (ownsRow_setCell_below HR.out.2.2 (by simp; omega) _) (by simp; omega) _) (by simp; omega) _) (by omega)
  · have d1 : decide ((L.length : Int) > 300) = true := by rw [decide_eq_true_eq]; omega
    rw [HX0.out h3]
    go_enter Tryz.func42, Tryz.ntmps42
    go_wp2_with fail
    refine bodyPost_ret (v := .tuple #[.agg #[.slice none 0 0, .slice none 0 0, .slice none 0 0], .bool false]) ?_ rfl ?_
    · simp [results, Tryz.results42, go_sem]
    · exact ⟨by go_grown, rfl⟩

end Go.Proofs.YtopmkddmllmecaaGreatDoor
