/- The walks of the program's reader: small functions. The walks of the program's reader: an atom. The walks of the program's reader: parentheses. The walk of the program's reader, whole. -/
import Derived.Test.YtopmkddmllmecaaGreatDoorSpecE
import Derived.Handy
import Derived.Deep.LoopGhost
import Derived.BigRegion
import Derived.Deep.DeepCutAuto
import Derived.Maps.AppendAt
/-! The walks of the program's reader: small functions. -/
namespace Go.Proofs.YtopmkddmllmecaaGreatDoor
open Go.RowKit Rt

set_option maxHeartbeats 400000 in
theorem isAtomByte_any (c : UInt8) (w : World) : Calls Tryz.prog 144 #[.int .u8 c.toNat] w fun e w' => e = .returned (.bool (isAtomB c)) ∧ w' = w := by
  go_enter Tryz.func144, Tryz.ntmps144
  go_wp2
  all_goals
    go_ret
    refine ⟨ret_bool ?_, rfl⟩
    rw [atomB_int]
    rw [Bool.eq_iff_iff]; simp; omega

theorem u8_same (c d : UInt8) (h : (c.toNat : Int) = (d.toNat : Int)) : c = d := UInt8.toNat.inj (by omega)

/-- The reader's struct. -/
def Rdr (w : World) (R : Nat) (s : ByteArray) (i d : Nat) : Prop := Blk w R 161 #[.string s, .int .i64 i, .int .i64 d]

theorem rdr_cells {w : World} {R : Nat} {s : ByteArray} {i d : Nat} (h : Rdr w R s i d) : w.cell? ⟨R, 0, none⟩ = some (.string s) ∧ w.cell? ⟨R, 1, none⟩ = some (.int .i64 i) ∧ w.cell? ⟨R, 2, none⟩ = some (.int .i64 d) ∧
    w.frozen? ⟨R, 0, none⟩ = false ∧ w.frozen? ⟨R, 1, none⟩ = false ∧ w.frozen? ⟨R, 2, none⟩ = false :=
  ⟨(Blk.cell h 0).trans rfl, (Blk.cell h 1).trans rfl, (Blk.cell h 2).trans rfl, Blk.frozen h 0, Blk.frozen h 1, Blk.frozen h 2⟩

/-- Only the reader's struct has turned, and what is new. -/
theorem only_drew {w w' : World} (h : Drew w w') (row : Option Nat) : w.grownBy w' row := by
  obtain ⟨n, rfl⟩ := h
  exact ⟨rfl, rfl, rfl, Nat.le_refl _, fun _ _ _ => rfl⟩

set_option maxHeartbeats 800000 in
theorem skip_no (R : Nat) (s : ByteArray) (i d : Nat) (c : UInt8) (w : World) (hi : i ≤ s.size) (h : Rdr w R s i d) (hc : s.data.toList[i]? ≠ some c) :
    Calls Tryz.prog 142 #[.pointer (some ⟨R, 0, none⟩), .int .u8 c.toNat] w fun e w' => e = .returned (.bool false) ∧ Drew w w' := by
  obtain ⟨c0, c1, c2, _, _, _⟩ := rdr_cells h
  by_cases he : i = s.size
  · have g1 : ((i : Int) == (s.size : Int)) = true := by simp; omega
    clear hc h he
    go_enter Tryz.func142, Tryz.ntmps142
    go_wp2_with fail
    go_quiet (fail)
    go_wp2_with fail
    go_ret
    exact ⟨rfl, _, rfl⟩
  · have hlt : i < s.size := by omega
    have g1 : ((i : Int) == (s.size : Int)) = false := by simp; omega
    have g2 : ((s[i].toNat : Int) == (c.toNat : Int)) = false := by
      rw [beq_eq_false_iff_ne]
      intro e
      exact hc (by rw [byte_at s i hlt]; exact congrArg some (u8_same _ _ e))
    have g3 : ((s[i].toNat : Int) != (c.toNat : Int)) = true := by rw [bne, g2]; rfl
    clear hc h
    go_enter Tryz.func142, Tryz.ntmps142
    go_wp2_with fail
    go_quiet (fail)
    go_wp2_with fail
    go_ret
    exact ⟨rfl, _, rfl⟩

set_option maxHeartbeats 800000 in
theorem skip_yes (R : Nat) (s : ByteArray) (i d : Nat) (c : UInt8) (w : World) (hm : s.size ≤ 100000) (h : Rdr w R s i d) (hc : s.data.toList[i]? = some c) :
    Calls Tryz.prog 142 #[.pointer (some ⟨R, 0, none⟩), .int .u8 c.toNat] w fun e w' => e = .returned (.bool true) ∧ w.grownBy w' (some R) ∧ Rdr w' R s (i + 1) d := by
  obtain ⟨c0, c1, c2, z0, z1, z2⟩ := rdr_cells h
  have hlt : i < s.size := by
    rcases Nat.lt_or_ge i s.size with h1 | h1
    · exact h1
    · rw [List.getElem?_eq_none (by simpa using h1)] at hc; cases hc
  have g1 : ((i : Int) == (s.size : Int)) = false := by simp; omega
  rw [byte_at s i hlt] at hc
  have hcc : s[i] = c := by injection hc
  have g2 : ((s[i].toNat : Int) == (c.toNat : Int)) = true := by rw [hcc]; simp
  have g3 : ((s[i].toNat : Int) != (c.toNat : Int)) = false := by rw [bne, g2]; rfl
  have HH := Lib.hid h
  clear hc h hcc
  go_enter Tryz.func142, Tryz.ntmps142
  go_wp2_with fail
  go_quiet (fail)
  go_wp2_with fail
  go_ret
  refine ⟨rfl, ?_, ?_⟩
  · exact ⟨rfl, rfl, rfl, by simp, fun k _ hne => Below.heap_setCell _ _ _ _ (fun e => hne (by rw [e]))⟩
  · have := (Blk.drewN HH.out nq).set_ 1 (.int .i64 (i + 1))
    simpa [Rdr] using this

end Go.Proofs.YtopmkddmllmecaaGreatDoor

/-! The walks of the program's reader: an atom. -/
namespace Go.Proofs.YtopmkddmllmecaaGreatDoor
open Go.RowKit Rt

/-- What the reader hands back. -/
def RdrPost (w : World) (R : Nat) (s : ByteArray) (d : Nat) (r : Option (Tree × Nat)) (e : Ending) (w' : World) : Prop :=
  w.grownBy w' (some R) ∧ match r with
    | some (t, j) => (∃ v, e = .returned (.tuple #[v, .bool true]) ∧ RepXF (fun k => w.heap.size ≤ k) w' t v) ∧ Rdr w' R s j d
    | none => ∃ p, e = .returned (.tuple #[.pointer p, .bool false])

theorem RdrPost.no {w w' : World} {R : Nat} {s : ByteArray} {d : Nat} {p : Option Addr} {e : Ending} (h : e = .returned (.tuple #[.pointer p, .bool false])) (hb : w.grownBy w' (some R)) : RdrPost w R s d none e w' := ⟨hb, p, h⟩
theorem RdrPost.yes {w w' : World} {R : Nat} {s : ByteArray} {d : Nat} {t : Tree} {j : Nat} {v : Value} {e : Ending} (h : e = .returned (.tuple #[v, .bool true])) (hr : RepXF (fun k => w.heap.size ≤ k) w' t v) (hd : Rdr w' R s j d) (hb : w.grownBy w' (some R)) :
    RdrPost w R s d (some (t, j)) e w' := ⟨hb, ⟨v, h, hr⟩, hd⟩

theorem grown_tr {a b c : World} {row : Option Nat} (h : a.grownBy b row) (k : b.grownBy c row) : a.grownBy c row :=
  ⟨k.os.trans h.os, k.tape.trans h.tape, k.output.trans h.output, Nat.le_trans h.size k.size, fun i hi hne => (k.block i (Nat.lt_of_lt_of_le hi h.size) hne).trans (h.block i hi hne)⟩

theorem rdr_drew {w w' : World} (h : Drew w w') {R : Nat} {s : ByteArray} {i d : Nat} (k : Rdr w R s i d) : Rdr w' R s i d := by
  obtain ⟨n, rfl⟩ := h; exact k

theorem atom_done {w wr : World} {R : Nat} {s : ByteArray} {i j d n : Nat} (hg : w.grownBy wr (some R)) (hr : Rdr wr R s j d) (he : endA s.data.toList i = j) :
    RdrPost w R s d (atomRes s.data.toList i) (.returned (.tuple #[.pointer (some ⟨wr.heap.size, 0, none⟩), .bool (decide (i < j))])) ((wr.drewN n).alloc (.cells #[.string (s.extract i j), .slice none 0 0] 165)) := by
  have hG : w.grownBy ((wr.drewN n).alloc (.cells #[.string (s.extract i j), .slice none 0 0] 165)) (some R) :=
    grown_tr hg ⟨rfl, rfl, rfl, by simp, fun k hk _ => Below.heap_alloc (wr.drewN n) _ k hk⟩
  unfold atomRes
  rw [he]
  by_cases h : i < j
  · rw [if_pos h]
    refine RdrPost.yes (by rw [decide_eq_true h]) ?_ ((Blk.drewN hr n).alloc _) hG
    rw [RepXF]
    have hb := Blk.new (wr.drewN n) 165 #[.string (s.extract i j), .slice none 0 0]
    exact ⟨wr.heap.size, rfl, by rw [st, ← extract_cut]; exact (hb.cell 0).trans rfl, (hb.cell 1).trans rfl, hg.size⟩
  · rw [if_neg h]
    exact RdrPost.no (by rw [decide_eq_false h]) hG

theorem isAtomByte_yes (c : UInt8) (w : World) (h : isAtomB c = true) : Calls Tryz.prog 144 #[.int .u8 c.toNat] w fun e w' => e = .returned (.bool true) ∧ w' = w :=
  (isAtomByte_any c w).mono fun _ _ ⟨he, hw⟩ => ⟨by rw [he, h], hw⟩
theorem isAtomByte_no (c : UInt8) (w : World) (h : isAtomB c = false) : Calls Tryz.prog 144 #[.int .u8 c.toNat] w fun e w' => e = .returned (.bool false) ∧ w' = w :=
  (isAtomByte_any c w).mono fun _ _ ⟨he, hw⟩ => ⟨by rw [he, h], hw⟩

theorem quiet_here {P : Program} {f : FuncId} {args : Array Value} {w : World} {a n : Nat} {v : Value} (c : ∀ W : World, Calls P f args W fun e w' => e = .returned v ∧ w' = W) :
    Calls P f args ((w.drewN a).drewN n) fun e w'' => e = .returned v ∧ ∃ m, w'' = (w.drewN a).drewN m :=
  (c _).mono fun _ _ ⟨he, hm⟩ => ⟨he, n, hm⟩

set_option maxHeartbeats 1600000 in
set_option maxRecDepth 100000 in
theorem part_atom (R : Nat) (s : ByteArray) (i d : Nat) (w : World) (hm : s.size ≤ 100000) (hi : i ≤ s.size) (h : Rdr w R s i d) (hc : s.data.toList[i]? ≠ some 40) :
    Calls Tryz.prog 126 #[.pointer (some ⟨R, 0, none⟩)] w (RdrPost w R s d (atomRes s.data.toList i)) := by
  have HH := Lib.hid h
  have HC := Lib.hid hc
  have hE1 := endA_ge s.data.toList i
  have hE2 : endA s.data.toList i ≤ s.size := by
    have := endA_le s.data.toList i (by simpa using hi)
    simpa using this
  clear h hc
  go_enter Tryz.func126, Tryz.ntmps126
  go_wp2_with fail
  refine (skip_no R s i d 40 w hi HH.out HC.out).mono ?_
  rintro e w1 ⟨rfl, hD1⟩
  have HR1 := Lib.hid (rdr_drew hD1 HH.out)
  obtain ⟨c0, c1, c2, z0, z1, z2⟩ := rdr_cells HR1.out
  have HG1 := Lib.hid (only_drew hD1 (some R))
  clear hD1
  go_wp2_with fail
  clear c0 c1 c2 z0 z1 z2
  go_loopg [] (s.size - i) (fun g wr => ∃ j : Nat, i ≤ j ∧ j ≤ s.size ∧ g = s.size - j ∧ Hid (endA s.data.toList i = endA s.data.toList j ∧ Rdr wr R s j d ∧ w.grownBy wr (some R)))
  case atStart => exact ⟨i, by omega, hi, rfl, rfl, HR1.out, HG1.out⟩
  case round =>
    obtain ⟨j, hj1, hj2, rfl, hj⟩ := hrel
    obtain ⟨c0, c1, c2, z0, z1, z2⟩ := rdr_cells hj.out.2.1
    have d0 : ∀ n o, ((wr.drewN n).alloc o).cell? ⟨R, 0, none⟩ = some (.string s) := fun n o => cell_alloc (w := wr.drewN n) c0 o
    have d1 : ∀ n o, ((wr.drewN n).alloc o).cell? ⟨R, 1, none⟩ = some (.int .i64 j) := fun n o => cell_alloc (w := wr.drewN n) c1 o
    by_cases hlt : j < s.size
    · have hl : j < s.data.toList.length := by simpa using hlt
      have g1 : decide (j < s.size) = true := by simp; omega
      by_cases hA : isAtomB s[j] = true
      · have HS := Lib.hid (endA_step s.data.toList j hl hA)
        have HA := Lib.hid hA
        clear hA
        have hok : Hid (isAtomB s[j] = true) := HA
        go_wp2_with fail
        go_quiet ((go_at_call 144; (first | exact quiet_here (fun W => isAtomByte_yes _ W HA.out) | exact Calls.quiet_of_same (isAtomByte_yes _ _ HA.out))))
        go_wp2_with fail
        go_roundg (s.size - (j + 1))
        case measure => omega
        case rel =>
          refine ⟨j + 1, by omega, by omega, rfl, hj.out.1.trans HS.out, ?_, ?_⟩
          · have := (Blk.drewN hj.out.2.1 nq).set_ 1 (.int .i64 (j + 1))
            simpa [Rdr] using this
          · exact grown_tr hj.out.2.2 ⟨rfl, rfl, rfl, by simp, fun k _ hne => Below.heap_setCell _ _ _ _ (fun e => hne (by rw [e]))⟩
      · have hA' : isAtomB s[j] = false := by simpa using hA
        have HS := Lib.hid (endA_stop s.data.toList j hl hA')
        have HA := Lib.hid hA'
        clear hA hA'
        go_wp2_with fail
        go_quiet ((go_at_call 144; (first | exact quiet_here (fun W => isAtomByte_no _ W HA.out) | exact Calls.quiet_of_same (isAtomByte_no _ _ HA.out))))
        go_wp2_with fail
        go_region
        all_goals
          go_wp2_with fail
          go_ret2
          exact atom_done hj.out.2.2 hj.out.2.1 (hj.out.1.trans HS.out)
    · have HS := Lib.hid (endA_out s.data.toList j (by simp; omega))
      have g1 : decide (j < s.size) = false := by simp; omega
      go_wp2_with fail
      go_quiet (fail)
      go_wp2_with fail
      go_region
      all_goals
        go_wp2_with fail
        go_ret2
        exact atom_done hj.out.2.2 hj.out.2.1 (hj.out.1.trans HS.out)

end Go.Proofs.YtopmkddmllmecaaGreatDoor

/-! The walks of the program's reader: parentheses. -/
namespace Go.Proofs.YtopmkddmllmecaaGreatDoor
open Go.RowKit Rt

theorem part_info : (Tryz.prog.info? 144).map (fun i => (i.zero, i.size, i.bytes)) = some (some (.pointer none), 1, 8) := by kernel_rfl

/-- What holds at the head of the loop over the parts. -/
structure PartsRel (s : ByteArray) (f i d R : Nat) (w wr : World) (j g : Nat) (acc : List Tree) (sv : Value) (xs : List Value) : Prop where
  le : g ≤ f
  fuel : 2 * (s.size - j) + 3 ≤ g
  jle : j ≤ s.size
  cnt : acc.length ≤ j
  res : rdL s.data.toList f i (d + 1) = (rdL s.data.toList g j (d + 1)).map (fun p => (acc ++ p.1, p.2))
  rdr : Rdr wr R s j (d + 1)
  node : Blk wr w.heap.size 165 #[.string ⟨#[]⟩, sv]
  own : wr.ownsRow (w.heap.size + 1) 144 1 sv acc.length xs
  rep : RepXsF (fun k => w.heap.size + 1 ≤ k ∧ some k ≠ sv.ownBlock) wr acc xs
  grown : w.grownBy wr (some R)
  size : w.heap.size + 1 ≤ wr.heap.size

theorem repX_shape {w : World} {t : Tree} {v : Value} (h : RepX w t v) : ∃ a, v = .pointer (some a) := by
  cases t with
  | atom s => rw [RepX] at h; obtain ⟨b, h, _⟩ := h; exact ⟨_, h⟩
  | list l => rw [RepX] at h; obtain ⟨b, g, c, xs, h, _⟩ := h; exact ⟨_, h⟩

/-- The reader and the node behind a part. -/
structure Stage (s : ByteArray) (d R : Nat) (w W : World) (j : Nat) (acc : List Tree) (sv : Value) (xs : List Value) : Prop where
  rdr : Rdr W R s j (d + 1)
  node : Blk W w.heap.size 165 #[.string ⟨#[]⟩, sv]
  own : W.ownsRow (w.heap.size + 1) 144 1 sv acc.length xs
  rep : RepXsF (fun k => w.heap.size + 1 ≤ k ∧ some k ≠ sv.ownBlock) W acc xs
  grown : w.grownBy W (some R)
  size : w.heap.size + 1 ≤ W.heap.size

theorem Stage.go {s : ByteArray} {d R : Nat} {w W W' : World} {j j' : Nat} {acc : List Tree} {sv : Value} {xs : List Value} (h : Stage s d R w W j acc sv xs) (hR : R + 1 ≤ w.heap.size) (hg : W.grownBy W' (some R)) (hr : Rdr W' R s j' (d + 1)) :
    Stage s d R w W' j' acc sv xs := by
  refine ⟨hr, h.node.grown hg (by intro e; injection e with e; omega), h.own.kept hg ?_, ?_, grown_tr h.grown hg, Nat.le_trans h.size hg.size⟩
  · refine .inr (fun e => ?_)
    have := (own_block_lt h.own _ e).1
    omega
  · refine RepXsF.move ?_ (fun k hk _ => hk) _ _ h.rep
    intro k hk hk2
    exact hg.block k hk2 (by intro e; injection e with e; have := hk.1; omega)

set_option maxHeartbeats 1600000 in
set_option maxRecDepth 100000 in
theorem parts_deep (R : Nat) (s : ByteArray) (i d : Nat) (w : World) (hd : 100 ≤ d) (hd2 : d ≤ 1000) (h : Rdr w R s i d) :
    Calls Tryz.prog 143 #[.pointer (some ⟨R, 0, none⟩)] w (RdrPost w R s d none) := by
  obtain ⟨c0, c1, c2, z0, z1, z2⟩ := rdr_cells h
  clear h
  go_enter Tryz.func143, Tryz.ntmps143
  go_wp2_with fail
  go_ret2
  exact RdrPost.no rfl ⟨rfl, rfl, rfl, by simp, fun k _ hne => Below.heap_setCell _ _ _ _ (fun e => hne (by rw [e]))⟩

set_option maxHeartbeats 1600000 in
set_option maxRecDepth 100000 in
theorem parts_open (R : Nat) (s : ByteArray) (hs : s.size ≤ 100000) (f i d : Nat) (w : World) (hi : i ≤ s.size) (hd : d < 100) (hf : 2 * (s.size - i) + 3 ≤ f) (h : Rdr w R s i d)
    (ih : ∀ (f' i' d' : Nat) (w' : World), f' < f → i' ≤ s.size → d' ≤ 100 → 2 * (s.size - i') + 2 ≤ f' → Rdr w' R s i' d' → Calls Tryz.prog 126 #[.pointer (some ⟨R, 0, none⟩)] w' (RdrPost w' R s d' (rd s.data.toList f' i' d'))) :
    Calls Tryz.prog 143 #[.pointer (some ⟨R, 0, none⟩)] w (RdrPost w R s d ((rdL s.data.toList f i (d + 1)).map (fun p => (Tree.list p.1, p.2)))) := by
  obtain ⟨c0, c1, c2, z0, z1, z2⟩ := rdr_cells h
  have hRw : R + 1 ≤ w.heap.size := Blk.lt h
  obtain ⟨i0, hi0, hz0, hz1, hz2⟩ := info_parts part_info
  have IH := Lib.hid ih
  have HH := Lib.hid h
  generalize hr : (rdL s.data.toList f i (d + 1)).map (fun p => (Tree.list p.1, p.2)) = r
  have HRR := Lib.hid hr
  clear ih h hr
  go_enter Tryz.func143, Tryz.ntmps143
  go_wp2_with fail
  clear c0 c1 c2 z0 z1 z2
  go_loopg [] (s.size + 1 - i) (fun gm wr => ∃ j g acc sv xs, gm = s.size + 1 - j ∧ PartsRel s f i d R w wr j g acc sv xs)
  case atStart =>
    refine ⟨i, f, [], .slice none 0 0, [], rfl, Nat.le_refl _, hf, hi, Nat.zero_le _, by simp, ?_, ?_, World.ownsRow_nil _ _ _ _, by rw [RepXsF], ?_, by simp⟩
    · have := (HH.out.set_ 2 (.int .i64 (d + 1))).alloc (.cells #[.string ⟨#[]⟩, .slice none 0 0] 165)
      simpa [Rdr] using this
    · have := Blk.new (w.setCell ⟨R, 2, none⟩ (.int .i64 (d + 1))) 165 #[.string ⟨#[]⟩, .slice none 0 0]
      simpa using this
    · refine ⟨rfl, rfl, rfl, by simp, fun k hk hne => ?_⟩
      rw [Below.heap_alloc _ _ _ (by simpa using hk), Below.heap_setCell _ _ _ _ (fun e => hne (by rw [e]))]
  case round =>
    obtain ⟨j, g, acc, sv, xs, rfl, hrel⟩ := hrel
    obtain ⟨sA, sc, rfl⟩ := own_shape hrel.own
    have hj := hrel.jle
    have hg1 := hrel.fuel
    have hg2 := hrel.le
    have hsz := hrel.size
    have HREL := Lib.hid hrel
    clear hrel
    obtain ⟨g, rfl⟩ : ∃ g', g = g' + 1 := ⟨g - 1, by omega⟩
    go_wp2_with fail
    refine (IH.out g j (d + 1) wr (by omega) hj (by omega) (by omega) HREL.out.rdr).mono ?_
    intro e w2 hp
    have hres := HREL.out.res
    rw [rdL] at hres
    cases hrd : rd s.data.toList g j (d + 1) with
    | none =>
      rw [hrd] at hp hres
      obtain ⟨hb, p, rfl⟩ := hp
      have HN : Hid (r = none) := by show _ = _; rw [← HRR.out, hres]; rfl
      have HB := Lib.hid (grown_tr HREL.out.grown hb)
      clear hres hrd hb
      go_wp2_with fail
      go_ret2
      rw [HN.out]
      exact RdrPost.no rfl HB.out
    | some q =>
      obtain ⟨t, e'⟩ := q
      rw [hrd] at hp hres
      obtain ⟨hb, ⟨v, rfl, hrep⟩, hrdr⟩ := hp
      obtain ⟨va, rfl⟩ := repX_shape (RepXF.rep _ _ hrep)
      obtain ⟨bd1, bd2⟩ := (rd_bounds s.data.toList g).1 _ _ _ _ hrd
      have bd2' : e' ≤ s.size := by simpa using bd2
      have hw2 : w.heap.size + 1 ≤ w2.heap.size := Nat.le_trans hsz hb.size
      have hwr2 : wr.heap.size ≤ w2.heap.size := hb.size
      have hnode2 := HREL.out.node.grown hb (by intro e; injection e with e; omega)
      have hown2 := HREL.out.own.kept hb (by
        refine .inr (fun e => ?_)
        have := (own_block_lt HREL.out.own _ e).1
        omega)
      have o1 := fun o => (blk_cells (hnode2.alloc o)).2.1
      obtain ⟨o1b, _⟩ := (blk_cells hnode2).2
      have HB := Lib.hid hb
      have HREP := Lib.hid hrep
      have HRDR := Lib.hid hrdr
      have HNODE := Lib.hid hnode2
      have HOWN := Lib.hid hown2
      have HRES := Lib.hid hres
      clear hb hrep hrdr hnode2 hown2 hres hrd bd2
      go_wp2_with (at_builtin; refine wpList_append_own_at _ rfl _ _ 163 rfl (w.heap.size + 1) 144 i0 (.pointer none) 1 8 Tryz.underlying163 hi0 hz0 hz1 hz2 rfl (Nat.succ_pos 0) (.slice sA acc.length sc) acc.length xs rfl (HOWN.out.alloc _) ⟨w2.heap.size, 0, none⟩ 1 1 [.pointer (some va)] rfl rfl (cell_one_new _ _ _) ?_ ?_ ?_ ?_ ?_)
      · intro x hx
        simp at hx; subst hx; rfl
      · have := HREL.out.cnt
        unfold maxLen; omega
      · have := HREL.out.cnt
        omega
      · simp; omega
      · intro v' w3 hown3 hgrow3 _ hat3
        obtain ⟨A3, c3, rfl⟩ := own_shape hown3
        obtain ⟨g3, rfl, q1, q2, q3, q4, q5⟩ := own_cells hown3 (Nat.succ_pos _)
        have hnb := fun k hk => (own_block_lt HOWN.out k hk).1
        have hnw : ∀ k, (Value.slice sA acc.length sc).ownBlock = some k → k < wr.heap.size := fun k hk => (own_block_lt HREL.out.own k hk).2
        have hat4 : ∀ k, k < w2.heap.size → some k ≠ (Value.slice sA acc.length sc).ownBlock → some k ≠ (Value.slice (some ⟨g3, 0, none⟩) (acc.length + 1) c3).ownBlock := by
          intro k hk hne e
          rcases hat3 with h | h
          · rw [h] at e; exact hne e
          · rw [h] at e
            simp at e
            omega
        have hal : ∀ k, k < w2.heap.size → some k ≠ (Value.slice sA acc.length sc).ownBlock → w3.heap[k]? = w2.heap[k]? := by
          intro k hk hne
          rw [hgrow3.block k (by simp; omega) hne, Below.heap_alloc _ _ _ hk]
        have hlow : ∀ k, k < w.heap.size + 1 → some k ≠ (Value.slice sA acc.length sc).ownBlock := fun k hk e => by have := hnb k e.symm; omega
        have hfar : ∀ k, wr.heap.size ≤ k → some k ≠ (Value.slice sA acc.length sc).ownBlock := fun k hk e => by have := hnw k e.symm; omega
        have hnode3 : Blk w3 w.heap.size 165 #[.string ⟨#[]⟩, .slice sA acc.length sc] := (hal _ (by omega) (hlow _ (by omega))).trans HNODE.out
        have hrdr3 : Rdr w3 R s e' (d + 1) := (hal _ (by omega) (hlow _ (by omega))).trans HRDR.out
        have hw3 : w2.heap.size + 1 ≤ w3.heap.size := by have := hgrow3.size; simpa using this
        have hstage : Stage s d R w (w3.setCell ⟨w.heap.size, 1, none⟩ (.slice (some ⟨g3, 0, none⟩) (acc.length + 1) c3)) e' (acc ++ [t]) (.slice (some ⟨g3, 0, none⟩) (acc.length + 1) c3) (xs ++ [.pointer (some va)]) := by
          have hset : ∀ k, k ≠ w.heap.size → (w3.setCell ⟨w.heap.size, 1, none⟩ (.slice (some ⟨g3, 0, none⟩) (acc.length + 1) c3)).heap[k]? = w3.heap[k]? := fun k hk => Below.heap_setCell _ _ _ _ hk
          refine ⟨(hset R (by omega)).trans hrdr3, ?_, ?_, ?_, ?_, by simp; omega⟩
          · have := hnode3.set_ 1 (.slice (some ⟨g3, 0, none⟩) (acc.length + 1) c3)
            simpa using this
          · have := hown3.kept (row := some w.heap.size) (w' := w3.setCell ⟨w.heap.size, 1, none⟩ (.slice (some ⟨g3, 0, none⟩) (acc.length + 1) c3)) ⟨rfl, rfl, rfl, by simp, fun k hk hne => hset k (fun e => hne (by rw [e]))⟩ (by
              refine .inr (fun e => ?_)
              have := (own_block_lt hown3 _ e).1
              omega)
            simpa using this
          · refine RepXsF.append _ _ _ _ ?_ (RepXsF.one ?_)
            · refine RepXsF.move ?_ ?_ _ _ HREL.out.rep
              · intro k hk hk2
                rw [hset k (by have := hk.1; omega), hal k (by omega) hk.2]
                exact HB.out.block k hk2 (by intro e; injection e with e; have := hk.1; omega)
              · intro k hk hk2
                exact ⟨hk.1, hat4 k (by omega) hk.2⟩
            · refine RepXF.move ?_ ?_ _ _ HREP.out
              · intro k hk hk2
                rw [hset k (by omega), hal k hk2 (hfar k hk)]
              · intro k hk hk2
                exact ⟨by omega, hat4 k hk2 (hfar k hk)⟩
          · have hG := HREL.out.grown
            refine ⟨(hgrow3.os.trans HB.out.os).trans hG.os, (hgrow3.tape.trans HB.out.tape).trans hG.tape, (hgrow3.output.trans HB.out.output).trans hG.output, by simp; omega, ?_⟩
            intro k hk hne
            rw [hset k (by omega), hal k (by omega) (hlow k (by omega)), HB.out.block k (by omega) hne]
            exact hG.block k hk hne
        obtain ⟨n0, n1, m0, m1⟩ := blk_cells hnode3
        have HST := Lib.hid hstage
        have HRR1 := Lib.hid hrdr3
        clear hstage hown3 hgrow3 hat3 hat4 hal hlow hfar hnode3 hrdr3 q5 hnb hnw o1 o1b
        go_wp2_with fail
        generalize w3.setCell ⟨w.heap.size, 1, none⟩ (.slice (some ⟨g3, 0, none⟩) (acc.length + 1) c3) = W4 at *
        by_cases h41 : s.data.toList[e']? = some 41
        · have HR : Hid (r = some (.list (acc ++ [t]), e' + 1)) := by
            show _ = _
            rw [← HRR.out, HRES.out]
            simp [h41]
          refine (skip_yes R s e' (d + 1) 41 W4 hs HST.out.rdr h41).mono ?_
          rintro e w5 ⟨rfl, hg5, hr5⟩
          have HS5 := Lib.hid (HST.out.go hRw hg5 hr5)
          obtain ⟨c0, c1, c2, z0, z1, z2⟩ := rdr_cells hr5
          clear h41 hg5 hr5
          go_wp2_with fail
          go_ret2
          rw [HR.out]
          have hgl := HS5.out.size
          refine RdrPost.yes rfl ?_ ?_ (grown_tr HS5.out.grown ⟨rfl, rfl, rfl, by simp, fun k _ hne => Below.heap_setCell _ _ _ _ (fun e => hne (by rw [e]))⟩)
          · have hset : ∀ k, k ≠ R → (w5.setCell ⟨R, 2, none⟩ (.int .i64 d)).heap[k]? = w5.heap[k]? := fun k hk => Below.heap_setCell _ _ _ _ hk
            have hnode : Blk (w5.setCell ⟨R, 2, none⟩ (.int .i64 d)) w.heap.size 165 #[.string ⟨#[]⟩, .slice (some ⟨g3, 0, none⟩) (acc.length + 1) c3] := (hset _ (by omega)).trans HS5.out.node
            have hown5 := HS5.out.own
            simp only [List.length_append, List.length_cons, List.length_nil, Nat.zero_add] at hown5
            obtain ⟨g5, hg5, p1, p2, p3, p4, p5⟩ := own_cells hown5 (Nat.succ_pos _)
            injection hg5 with hg5
            injection hg5 with hg5
            subst hg5
            rw [RepXF]
            refine ⟨w.heap.size, g3, c3, xs ++ [.pointer (some va)], rfl, (blk_cells hnode).1, ?_, by simpa using p3, p4, ?_, ?_, Nat.le_refl _, by omega, by simp⟩
            · rw [(blk_cells hnode).2.1]; simp
            · intro j' u' hu'
              rw [World.cell?_of_block (a := ⟨g3, j', none⟩) (hset g3 (by omega))]
              exact p5 j' u' hu'
            · refine RepXsF.move ?_ ?_ _ _ HS5.out.rep
              · intro k hk _
                exact hset k (by have := hk.1; omega)
              · intro k hk _
                have := hk.1
                omega
          · have := HS5.out.rdr.set_ 2 (.int .i64 d)
            simpa [Rdr] using this
        · by_cases h32 : s.data.toList[e']? = some 32
          · have HR : Hid (rdL s.data.toList f i (d + 1) = (rdL s.data.toList g (e' + 1) (d + 1)).map (fun p => (acc ++ [t] ++ p.1, p.2))) := by
              show _ = _
              rw [HRES.out]
              skip
              rw [if_neg h41, if_pos h32]
              cases rdL s.data.toList g (e' + 1) (d + 1) <;> simp
            have H41 := Lib.hid h41
            have H32 := Lib.hid h32
            have he : e' < s.size := by
              rcases Nat.lt_or_ge e' s.size with h | h
              · exact h
              · rw [List.getElem?_eq_none (by simpa using h)] at h32; cases h32
            clear h41 h32
            refine (skip_no R s e' (d + 1) 41 W4 bd2' HST.out.rdr H41.out).mono ?_
            rintro e w5 ⟨rfl, hd5⟩
            have HS5 := Lib.hid (HST.out.go hRw (only_drew hd5 _) (rdr_drew hd5 HST.out.rdr))
            clear hd5
            go_wp2_with fail
            refine (skip_yes R s e' (d + 1) 32 w5 hs HS5.out.rdr H32.out).mono ?_
            rintro e w6 ⟨rfl, hg6, hr6⟩
            have HS6 := Lib.hid (HS5.out.go hRw hg6 hr6)
            clear hg6 hr6
            go_wp2_with fail
            go_roundg (s.size + 1 - (e' + 1))
            case measure => omega
            case rel =>
              have hcnt := HREL.out.cnt
              have hS := HS6.out
              exact ⟨e' + 1, g, acc ++ [t], .slice (some ⟨g3, 0, none⟩) (acc.length + 1) c3, xs ++ [.pointer (some va)], rfl, ⟨by omega, by omega, by omega, by simp; omega, HR.out, hS.rdr, hS.node, hS.own, hS.rep, hS.grown, hS.size⟩⟩
          · have HN : Hid (r = none) := by show _ = _; rw [← HRR.out, HRES.out]; rw [if_neg h41, if_neg h32]; rfl
            have H41 := Lib.hid h41
            have H32 := Lib.hid h32
            clear h41 h32
            refine (skip_no R s e' (d + 1) 41 W4 bd2' HST.out.rdr H41.out).mono ?_
            rintro e w5 ⟨rfl, hd5⟩
            have HS5 := Lib.hid (HST.out.go hRw (only_drew hd5 _) (rdr_drew hd5 HST.out.rdr))
            clear hd5
            go_wp2_with fail
            refine (skip_no R s e' (d + 1) 32 w5 bd2' HS5.out.rdr H32.out).mono ?_
            rintro e w6 ⟨rfl, hd6⟩
            have HS6 := Lib.hid (HS5.out.go hRw (only_drew hd6 _) (rdr_drew hd6 HS5.out.rdr))
            clear hd6
            go_wp2_with fail
            go_ret2
            rw [HN.out]
            exact RdrPost.no rfl HS6.out.grown

end Go.Proofs.YtopmkddmllmecaaGreatDoor

/-! The walk of the program's reader, whole. -/
namespace Go.Proofs.YtopmkddmllmecaaGreatDoor
open Go.RowKit Rt

theorem rd_other (l : B) (f i d : Nat) (h : l[i]? ≠ some 40) : rd l (f + 1) i d = atomRes l i := by
  rw [rd, if_neg h]; rfl

theorem RdrPost.go {w w1 w' : World} {R : Nat} {s : ByteArray} {d : Nat} {r : Option (Tree × Nat)} {e : Ending} (hg : w.grownBy w1 (some R)) (h : RdrPost w1 R s d r e w') : RdrPost w R s d r e w' := by
  obtain ⟨hb, h⟩ := h
  refine ⟨grown_tr hg hb, ?_⟩
  cases r with
  | none => exact h
  | some p =>
    obtain ⟨t, j⟩ := p
    obtain ⟨⟨v, hv, hr⟩, hd⟩ := h
    exact ⟨⟨v, hv, RepXF.move (fun _ _ _ => rfl) (fun k hk _ => Nat.le_trans hg.size hk) _ _ hr⟩, hd⟩

set_option maxHeartbeats 800000 in
theorem part_paren (R : Nat) (s : ByteArray) (i d : Nat) (r : Option (Tree × Nat)) (w : World) (hs : s.size ≤ 100000) (h : Rdr w R s i d) (hc : s.data.toList[i]? = some 40)
    (hp : ∀ w', Rdr w' R s (i + 1) d → Calls Tryz.prog 143 #[.pointer (some ⟨R, 0, none⟩)] w' (RdrPost w' R s d r)) :
    Calls Tryz.prog 126 #[.pointer (some ⟨R, 0, none⟩)] w (RdrPost w R s d r) := by
  have HP := Lib.hid hp
  have HC := Lib.hid hc
  have HH := Lib.hid h
  clear hp hc h
  go_enter Tryz.func126, Tryz.ntmps126
  go_wp2_with fail
  refine (skip_yes R s i d 40 w hs HH.out HC.out).mono ?_
  rintro e w1 ⟨rfl, hg1, hr1⟩
  have HG1 := Lib.hid hg1
  have HR1 := Lib.hid hr1
  clear hg1 hr1
  go_wp2_with fail
  refine (HP.out w1 HR1.out).mono ?_
  intro e w2 hpost
  have hfin := RdrPost.go HG1.out hpost
  cases r with
  | none =>
    obtain ⟨hb, p, rfl⟩ := hfin
    have HB := Lib.hid hb
    clear hb hpost
    go_wp2_with fail
    go_ret2
    exact RdrPost.no rfl HB.out
  | some q =>
    obtain ⟨t, j⟩ := q
    obtain ⟨hb, ⟨v, rfl, hr⟩, hd⟩ := hfin
    have HB := Lib.hid hb
    have HR := Lib.hid hr
    have HD := Lib.hid hd
    clear hb hr hd hpost
    go_wp2_with fail
    go_ret2
    exact RdrPost.yes rfl HR.out HD.out HB.out

theorem part_any (R : Nat) (s : ByteArray) (hs : s.size ≤ 100000) (n : Nat) : ∀ (f i d : Nat) (w : World), f ≤ n → i ≤ s.size → d ≤ 100 → 2 * (s.size - i) + 2 ≤ f → Rdr w R s i d →
    Calls Tryz.prog 126 #[.pointer (some ⟨R, 0, none⟩)] w (RdrPost w R s d (rd s.data.toList f i d)) := by
  induction n with
  | zero => intro f i d w h1 h2 h3 h4; omega
  | succ n ih =>
    intro f i d w h1 h2 h3 h4 hr
    obtain ⟨f, rfl⟩ : ∃ f', f = f' + 1 := ⟨f - 1, by omega⟩
    by_cases hc : s.data.toList[i]? = some 40
    · have hi : i < s.size := by
        rcases Nat.lt_or_ge i s.size with h | h
        · exact h
        · rw [List.getElem?_eq_none (by simpa using h)] at hc; cases hc
      by_cases hd : d < 100
      · rw [rd_open _ _ _ _ hc hd]
        exact part_paren R s i d _ w hs hr hc (fun w' hr' => parts_open R s hs f (i + 1) d w' (by omega) hd (by omega) hr' (fun f' i' d' w'' q1 q2 q3 q4 q5 => ih f' i' d' w'' (by omega) q2 q3 q4 q5))
      · rw [rd_deep _ _ _ _ hc (by omega)]
        exact part_paren R s i d _ w hs hr hc (fun w' hr' => parts_deep R s (i + 1) d w' (by omega) (by omega) hr')
    · rw [rd_other _ _ _ _ hc]
      exact part_atom R s i d w hs h2 hr hc

/-- What readText hands back. -/
def TextPost (w : World) (r : Option Tree) (e : Ending) (w' : World) : Prop :=
  Below w.heap.size w w' ∧ match r with
    | some t => ∃ v, e = .returned (.tuple #[v, .bool true]) ∧ RepXF (fun k => w.heap.size ≤ k) w' t v
    | none => e = .returned (.tuple #[.pointer none, .bool false])

set_option maxHeartbeats 800000 in
theorem readText_any (s : ByteArray) (hm : s.size ≤ maxLen) (w : World) : Calls Tryz.prog 111 #[.string s] w (TextPost w (parse s.data.toList)) := by
  unfold maxLen at hm
  have hsl : s.data.toList.length = s.size := by simp
  by_cases h : s.size ≤ 4000
  · have HC := Lib.hid (part_any w.heap.size s (by omega) (2 * s.size + 4) (2 * s.size + 4) 0 0)
    generalize hp : parse s.data.toList = r
    have HP : Hid ((match rd s.data.toList (2 * s.size + 4) 0 0 with | some (t, e) => if e = s.size then some t else none | none => none) = r) := by
      show _ = _
      rw [← hp, parse, if_pos (by omega), hsl]
      cases rd s.data.toList (2 * s.size + 4) 0 0 with
      | none => rfl
      | some p => obtain ⟨t, e⟩ := p; rfl
    clear hp hsl
    go_enter Tryz.func111, Tryz.ntmps111
    go_wp2_with fail
    have hrd : Rdr (w.alloc (.cells #[.string s, .int .i64 0, .int .i64 0] 161)) w.heap.size s 0 0 := Blk.new w 161 _
    have hW := below_one w (.cells #[.string s, .int .i64 0, .int .i64 0] 161)
    generalize w.alloc (.cells #[.string s, .int .i64 0, .int .i64 0] 161) = W at *
    refine (HC.out W (Nat.le_refl _) (Nat.zero_le _) (by omega) (by omega) hrd).mono ?_
    intro e w2 hpost
    have HP2 := HP.out
    cases hq : rd s.data.toList (2 * s.size + 4) 0 0 with
    | none =>
      rw [hq] at hpost HP2
      obtain ⟨hb, p, rfl⟩ := hpost
      have HN : Hid (r = none) := HP2.symm
      have HB : Hid (Below w.heap.size w w2) := hW.grown hb hW.size (fun k hk => by injection hk with hk; omega)
      clear hq HP2 hb hrd hW
      go_wp2_with fail
      go_ret2
      rw [HN.out]
      exact ⟨HB.out, rfl⟩
    | some p =>
      obtain ⟨t, j⟩ := p
      rw [hq] at hpost HP2
      obtain ⟨hb, ⟨v, rfl, hr⟩, hd⟩ := hpost
      obtain ⟨va, rfl⟩ := repX_shape (RepXF.rep _ _ hr)
      have HB : Hid (Below w.heap.size w w2) := hW.grown hb hW.size (fun k hk => by injection hk with hk; omega)
      have HR := Lib.hid (RepXF.move (G := fun k => w.heap.size ≤ k) (fun _ _ _ => rfl) (fun k hk _ => Nat.le_trans hW.size hk) _ _ hr)
      obtain ⟨c0, c1, c2, _, _, _⟩ := rdr_cells hd
      by_cases hj : j = s.size
      · have HN : Hid (r = some t) := by show _ = _; rw [← HP2]; simp [hj]
        have q1 : ((j : Int) == (s.size : Int)) = true := by simp; omega
        have q2 : ((j : Int) != (s.size : Int)) = false := by rw [bne, q1]; rfl
        clear hq HP2 hb hr hd hrd hW hj
        go_wp2_with fail
        go_ret2
        rw [HN.out]
        exact ⟨HB.out, _, rfl, HR.out⟩
      · have HN : Hid (r = none) := by show _ = _; rw [← HP2]; simp [hj]
        have q1 : ((j : Int) == (s.size : Int)) = false := by simp; omega
        have q2 : ((j : Int) != (s.size : Int)) = true := by rw [bne, q1]; rfl
        clear hq HP2 hb hr hd hrd hW hj
        go_wp2_with fail
        go_ret2
        rw [HN.out]
        exact ⟨HB.out, rfl⟩
  · have HP : Hid (parse s.data.toList = none) := by show _ = _; rw [parse, if_neg (by omega)]
    clear hsl
    rw [HP.out]
    go_enter Tryz.func111, Tryz.ntmps111
    go_wp2_with fail
    go_ret2
    exact ⟨Below.refl _ _, rfl⟩

end Go.Proofs.YtopmkddmllmecaaGreatDoor
