/- The program's spots: where all parts of a term stand. -/
import Derived.Test.YtdijebbmjgmaiaaGreatDoorRdI
set_option linter.unusedSimpArgs false
set_option linter.unusedVariables false
namespace Go.Proofs.YtdijebbmjgmaiaaGreatDoor
open Go.RowKit Rt

/-- A spot of a part, which does not lie in the block o. -/
def SpotAt (F : Nat → Prop) (w : World) (o : Option Nat) (u : Term) (y : Value) : Prop :=
  ∃ b v, y = .pointer (some ⟨b, 0, none⟩) ∧ w.cell? ⟨b, 0, none⟩ = some v ∧ RepPF F w u v ∧ o ≠ some b

def Spots (F : Nat → Prop) (w : World) (o : Option Nat) : List Term → List Value → Prop
  | [], ys => ys = []
  | u :: us, ys => ∃ y r, ys = y :: r ∧ SpotAt F w o u y ∧ Spots F w o us r

/-- The row is the same, or a new one. -/
def After (w : World) (o o' : Option Nat) : Prop := o' = o ∨ ∃ q, o' = some q ∧ w.heap.size ≤ q

theorem After.trans {a b : World} {o o1 o2 : Option Nat} (h : After a o o1) (k : After b o1 o2) (hs : a.heap.size ≤ b.heap.size) : After a o o2 := by
  rcases k with rfl | ⟨q, rfl, hq⟩
  · exact h
  · exact .inr ⟨q, rfl, by omega⟩

/-- What is grown by a row and then by the row that took its place is grown by the row. -/
theorem grown_after {a b c : World} {o o1 : Option Nat} (h : a.grownBy b o) (ho : After a o o1) (k : b.grownBy c o1) : a.grownBy c o := by
  have hs := h.size
  refine ⟨k.os.trans h.os, k.tape.trans h.tape, k.output.trans h.output, Nat.le_trans hs k.size, fun q hq hne => ?_⟩
  rw [k.block q (by omega) ?_]
  · exact h.block q hq hne
  · rcases ho with rfl | ⟨r, rfl, hr⟩
    · exact hne
    · intro e; injection e with e; omega

theorem SpotAt.go {F : Nat → Prop} {w w' : World} {o o' : Option Nat} {u : Term} {y : Value} (h : SpotAt F w o u y) (hg : w.grownBy w' o) (ho : After w o o') (hF : ∀ k, F k → some k ≠ o) : SpotAt F w' o' u y := by
  obtain ⟨b, v, e, hc, hr, hb⟩ := h
  have hlt := World.block_lt_of_cell? w _ hc
  refine ⟨b, v, e, ?_, RepPF.move (fun k hk hk2 => hg.block k hk2 (hF k hk)) (fun _ h _ => h) _ _ hr, ?_⟩
  · rw [World.cell?_of_block (a := ⟨b, 0, none⟩) (hg.block b hlt (fun e => hb e.symm))]; exact hc
  · rcases ho with rfl | ⟨q, rfl, hq⟩
    · exact hb
    · intro e; injection e with e
      have : b < w.heap.size := hlt
      omega

theorem Spots.go {F : Nat → Prop} {w w' : World} {o o' : Option Nat} (hg : w.grownBy w' o) (ho : After w o o') (hF : ∀ k, F k → some k ≠ o) : ∀ (us : List Term) (ys : List Value), Spots F w o us ys → Spots F w' o' us ys
  | [], _, h => h
  | u :: us, ys, ⟨y, r, e, h, k⟩ => ⟨y, r, e, h.go hg ho hF, Spots.go hg ho hF us r k⟩

theorem Spots.append {F : Nat → Prop} {w : World} {o : Option Nat} : ∀ (us vs : List Term) (ys zs : List Value), Spots F w o us ys → Spots F w o vs zs → Spots F w o (us ++ vs) (ys ++ zs)
  | [], _, _, _, h, k => by cases h; exact k
  | u :: us, vs, _, zs, ⟨y, r, e, h, k⟩, k2 => by
    subst e
    exact ⟨y, r ++ zs, rfl, h, Spots.append us vs r zs k k2⟩

theorem Spots.length {F : Nat → Prop} {w : World} {o : Option Nat} : ∀ (us : List Term) (ys : List Value), Spots F w o us ys → ys.length = us.length
  | [], _, h => by cases h; rfl
  | u :: us, _, ⟨y, r, e, _, k⟩ => by subst e; simp [Spots.length us r k]

theorem Spots.at {F : Nat → Prop} {w : World} {o : Option Nat} : ∀ (us : List Term) (ys : List Value) (i : Nat) (u : Term), Spots F w o us ys → us[i]? = some u → ∃ y, ys[i]? = some y ∧ SpotAt F w o u y
  | [], _, _, _, _, h => by simp at h
  | t :: us, _, 0, u, ⟨y, r, e, h1, _⟩, h => by
    simp at h; subst h; subst e
    exact ⟨y, rfl, h1⟩
  | t :: us, _, i + 1, u, ⟨y, r, e, _, k⟩, h => by
    subst e
    obtain ⟨x, hx, h2⟩ := Spots.at us r i u k (by simpa using h)
    exact ⟨x, by simpa using hx, h2⟩

theorem grown_alloc {w w' : World} {o : Obj} {r : Option Nat} (h : (w.alloc o).grownBy w' r) : w.grownBy w' r := by
  have hs := h.size
  refine ⟨h.os, h.tape, h.output, by simp at hs; omega, fun q hq hne => ?_⟩
  rw [h.block q (by simp; omega) hne]
  exact Below.heap_alloc w o q hq

theorem After.at {w : World} {o o' : Option Nat} {n : Nat} (h : o' = o ∨ o' = some n) (hn : w.heap.size ≤ n) : After w o o' := by
  rcases h with h | h
  · exact .inl h
  · exact .inr ⟨n, h, hn⟩

/-- What spread gives. -/
def SpreadPost (F : Nat → Prop) (w : World) (B k : Nat) (t : Term) (lv : Value) (xs : List Value) (e : Ending) (w' : World) : Prop :=
  ∃ lv' ys, e = .returned lv' ∧ w'.ownsRow B 57 1 lv' (k + size t) (xs ++ ys) ∧ w.grownBy w' lv.ownBlock ∧ After w lv.ownBlock lv'.ownBlock ∧ Spots F w' lv'.ownBlock (subs t) ys

/-- What holds at the head of spread's loop. -/
structure SpreadRel (F : Nat → Prop) (w wr : World) (B k gk : Nat) (t : Term) (lv lvr : Value) (xs zs : List Value) (j : Nat) : Prop where
  le : j ≤ (kidsOf t).length
  grown : w.grownBy wr lv.ownBlock
  after : After w lv.ownBlock lvr.ownBlock
  ex : ∃ ys, wr.ownsRow B 57 1 lvr (k + 1 + sizes ((kidsOf t).take j)) (xs ++ ys) ∧ Spots F wr lvr.ownBlock (t :: subsL ((kidsOf t).take j)) ys
  kids : RepPsF F wr (kidsOf t) zs
  cells : 0 < (kidsOf t).length → Cells wr gk zs ∧ gk < wr.heap.size ∧ some gk ≠ lvr.ownBlock

set_option maxHeartbeats 3200000 in
set_option maxRecDepth 100000 in
theorem spread_any (n : Nat) : ∀ (F : Nat → Prop) (t : Term) (v lv : Value) (a B k : Nat) (xs : List Value) (w : World), size t ≤ n → k + size t ≤ 10000 → B ≤ w.heap.size → (∀ q, F q → q < B) →
    w.cell? ⟨a, 0, none⟩ = some v → lv.ownBlock ≠ some a → RepPF F w t v → w.ownsRow B 57 1 lv k xs →
    Calls Tryz.prog 54 #[.pointer (some ⟨a, 0, none⟩), lv] w (SpreadPost F w B k t lv xs) := by
  induction n with
  | zero => intro F t v lv a B k xs w h; have := size_pos t; omega
  | succ n ih =>
    intro F t v lv a B k xs w hn hk hB hFB hc hne hv hown
    obtain ⟨i0, hi0, hz0, hz1, hz2⟩ := info_parts ptrS_info
    have IH := Lib.hid ih
    have HFB := Lib.hid hFB
    have HV := Lib.hid hv
    have HO := Lib.hid hown
    have HC := Lib.hid hc
    have HNE := Lib.hid hne
    have haw := World.block_lt_of_cell? w _ hc
    have haw' : a < w.heap.size := haw
    have hsp := size_pos t
    obtain ⟨Al, cl, hlv⟩ := own_shape hown
    subst hlv
    clear ih hFB hv hown hc hne haw
    go_enter Tryz.func54, Tryz.ntmps54
    go_wp2_with (at_builtin; refine wpList_append_own_at _ rfl _ _ 43 rfl B 57 i0 (.pointer none) 1 8 Tryz.underlying43 hi0 hz0 hz1 hz2 rfl (Nat.succ_pos 0) (.slice Al k cl) k xs rfl (HO.out.alloc _) ⟨w.heap.size, 0, none⟩ 1 1 [.pointer (some ⟨a, 0, none⟩)] rfl rfl (cell_one_new _ _ _) ?_ ?_ ?_ ?_ ?_)
    · intro u hu
      simp at hu; subst hu; rfl
    · unfold maxLen; omega
    · omega
    · simp; omega
    · intro v1 w1 hown1 hg1 _ hat1
      have hs1 := hg1.size
      have hs1' : w.heap.size + 1 ≤ w1.heap.size := by simpa using hs1
      have hG1 : w.grownBy w1 (Value.slice Al k cl).ownBlock := grown_alloc hg1
      have hA1 : After w (Value.slice Al k cl).ownBlock v1.ownBlock := After.at (n := w.heap.size + 1) (by simpa using hat1) (by omega)
      have hrow := fun q hq => own_block_lt HO.out q hq
      have hFr : ∀ q, F q → some q ≠ (Value.slice Al k cl).ownBlock := fun q hq e => by
        have := hrow q e.symm
        have := HFB.out q hq
        omega
      have hS1 : SpotAt F w1 v1.ownBlock t (.pointer (some ⟨a, 0, none⟩)) := SpotAt.go (w := w) ⟨a, v, rfl, HC.out, HV.out, HNE.out⟩ hG1 hA1 hFr
      have hV1 : RepPF F w1 t v := RepPF.move (fun q hq hq2 => hG1.block q hq2 (hFr q hq)) (fun _ h _ => h) _ _ HV.out
      have c1 : w1.cell? ⟨a, 0, none⟩ = some v := by rw [World.cell?_of_block (a := ⟨a, 0, none⟩) (hG1.block a haw' (fun e => HNE.out e.symm))]; exact HC.out
      obtain ⟨bt, rfl⟩ := RepPF.ptr t v HV.out
      have HKI := Lib.hid (kids_any F t _ w1 hV1 (by omega) (fun q hq => by have := HFB.out q hq; omega))
      obtain ⟨A1, cl1, rfl⟩ := own_shape hown1
      have HO1 := Lib.hid hown1
      have HG1 := Lib.hid hG1
      have HA1 := Lib.hid hA1
      have HS1 := Lib.hid hS1
      have HFR := Lib.hid hFr
      have HROW := Lib.hid hrow
      clear hown1 hg1 hat1 hG1 hA1 hS1 hV1 hFr hrow hs1
      go_wp2_with fail
      refine HKI.out.mono ?_
      rintro e w2 ⟨hb2, Ak, ck, zs, rfl, hzs, hcells⟩
      have hs2 := hb2.size
      have hb2' : w1.grownBy w2 none := ⟨hb2.os, hb2.tape, hb2.output, hb2.size, fun q hq _ => hb2.block q hq⟩
      have hO2 : w2.ownsRow B 57 1 (.slice A1 (k + 1) cl1) (k + 1) (xs ++ [.pointer (some ⟨a, 0, none⟩)]) := HO1.out.kept hb2' (by
        cases hv : (Value.slice A1 (k + 1) cl1).ownBlock with
        | none => exact .inl rfl
        | some q => exact .inr (by simp))
      have hG2 : w.grownBy w2 (Value.slice Al k cl).ownBlock := ⟨hb2.os.trans HG1.out.os, hb2.tape.trans HG1.out.tape, hb2.output.trans HG1.out.output, by omega, fun q hq hne => by rw [hb2.block q (by omega)]; exact HG1.out.block q hq hne⟩
      have hk1 := (own_cells HO1.out (by omega)).choose_spec
      obtain ⟨r1, hA1e, hr1, hr2, -⟩ := own_cells HO1.out (by omega)
      have HREL : Hid (SpreadRel F w w2 B k ((Ak.getD ⟨0, 0, none⟩).block) t (.slice Al k cl) (.slice A1 (k + 1) cl1) xs zs 0) := by
        refine ⟨Nat.zero_le _, hG2, HA1.out, ⟨[.pointer (some ⟨a, 0, none⟩)], by simpa [sizes] using hO2, ?_⟩, hzs, fun h => ?_⟩
        · rw [List.take_zero, subsL]
          refine ⟨_, [], rfl, ?_, rfl⟩
          obtain ⟨b, v, e, h1, h2, h3⟩ := HS1.out
          exact ⟨b, v, e, by rw [hb2.cell (World.block_lt_of_cell? w1 _ h1)]; exact h1, RepPF.move (fun q hq hq2 => hb2.block q hq2) (fun _ h _ => h) _ _ h2, h3⟩
        · obtain ⟨g, rfl, h1, h2, h3⟩ := hcells h
          refine ⟨h3, h2, ?_⟩
          rw [hA1e]
          show some g ≠ some r1
          intro e; injection e with e; omega
      have HCE : Hid (0 < (kidsOf t).length → ∃ g, Ak = some ⟨g, 0, none⟩) := fun h => by
        obtain ⟨g, e, _⟩ := hcells h
        exact ⟨g, e⟩
      have hkl : (kidsOf t).length ≤ 10000 := by
        have h1 := size_kids t
        have h2 : ∀ l : List Term, l.length ≤ sizes l := fun l => by
          induction l with
          | nil => simp
          | cons u l ih => have := size_pos u; rw [List.length_cons, sizes]; omega
        have := h2 (kidsOf t)
        omega
      clear hb2 hzs hcells hb2' hO2 hG2 hk1 hA1e hr1 hr2
      go_wp2_with fail
      go_loopw [1, 17] (fun lv0 iv wr => ∃ (j : Nat) (lvr : Value), lvr = lv0 ∧ j ≤ (kidsOf t).length ∧ iv = .int .i64 j ∧ Hid (SpreadRel F w wr B k ((Ak.getD ⟨0, 0, none⟩).block) t (.slice Al k cl) lvr xs zs j)) (fun _ iv _ => (kidsOf t).length - (intOf iv).toNat)
      case atStart => exact ⟨0, _, rfl, Nat.zero_le _, rfl, HREL.out⟩
      case round =>
        obtain ⟨j, lvr, hlv0, hj, rfl, HR⟩ := hrel
        subst hlv0
        by_cases hlt : j < (kidsOf t).length
        · obtain ⟨gk, rfl⟩ := HCE.out (by omega)
          obtain ⟨u, hu⟩ : ∃ u, (kidsOf t)[j]? = some u := ⟨_, List.getElem?_eq_getElem hlt⟩
          obtain ⟨x, hxk, hrep⟩ := RepPsF.at (kidsOf t) zs j u HR.out.kids hu
          obtain ⟨hcz, hgk, hgn⟩ := HR.out.cells (by omega)
          obtain ⟨ys, hown, hsp⟩ := HR.out.ex
          have e0 : wr.cell? ⟨gk, j, none⟩ = some x := hcz j x hxk
          have hws := HR.out.grown.size
          obtain ⟨bu, rfl⟩ := RepPF.ptr u x hrep
          have hrowr := fun q hq => own_block_lt hown q hq
          have hFrr : ∀ q, F q → some q ≠ lvr.ownBlock := fun q hq e => by
            have := hrowr q e.symm
            have := HFB.out q hq
            omega
          have hgA : wr.grownBy (wr.alloc (.cells #[.pointer (some ⟨bu, 0, none⟩), .pointer (some ⟨a, 0, none⟩), .int .i64 j] 59)) lvr.ownBlock := ⟨rfl, rfl, rfl, by simp, fun q hq _ => Below.heap_alloc wr _ q hq⟩
          have hown2 := hown.alloc (.cells #[.pointer (some ⟨bu, 0, none⟩), .pointer (some ⟨a, 0, none⟩), .int .i64 j] 59)
          have hsu := size_pos u
          have hst := sizes_take (kidsOf t) j u hu
          have hsl := sizes_le (kidsOf t) (j + 1)
          have hsk := size_kids t
          have hcall := IH.out F u (.pointer (some ⟨bu, 0, none⟩)) lvr wr.heap.size B (k + 1 + sizes ((kidsOf t).take j)) (xs ++ ys) (wr.alloc (.cells #[.pointer (some ⟨bu, 0, none⟩), .pointer (some ⟨a, 0, none⟩), .int .i64 j] 59)) (by omega) (by omega) (by simp; omega) HFB.out (by simp) (fun e => by have := hrowr _ e; omega) (RepPF.move (fun q hq hq2 => Below.heap_alloc wr _ q hq2) (fun _ h _ => h) _ _ hrep) hown2
          have HCALL := Lib.hid hcall
          have HSP := Lib.hid (Spots.go hgA (.inl rfl) hFrr _ _ hsp)
          have HFRR := Lib.hid hFrr
          have HGA := Lib.hid hgA
          have HCZ := Lib.hid hcz
          have HGN := Lib.hid hgn
          have HU := Lib.hid (subsL_take (kidsOf t) j u hu)
          have HST := Lib.hid hst
          clear hcall hsp hFrr hgA hown hown2 hrowr hxk hrep hcz hgn hu hst
          go_wp2_with (go_at_call 54; refine HCALL.out.mono ?_; rintro e w4 ⟨lv4, ys4, rfl, ho4, hg4, ha4, hs4⟩; have HO4 := Lib.hid ho4; have HG4 := Lib.hid hg4; have HA4 := Lib.hid ha4; have HS4 := Lib.hid hs4; clear ho4 hg4 ha4 hs4)
          go_roundw
          case measure => simp [intOf]; omega
          case rel =>
            refine ⟨j + 1, lv4, rfl, by omega, by go_num, ?_⟩
            have hA5 : After wr lvr.ownBlock lv4.ownBlock := After.trans (b := wr.alloc (.cells #[.pointer (some ⟨bu, 0, none⟩), .pointer (some ⟨a, 0, none⟩), .int .i64 j] 59)) (.inl rfl) HA4.out HGA.out.size
            have hG5 : wr.grownBy w4 lvr.ownBlock := grown_alloc HG4.out
            have hFr5 : ∀ q, F q → some q ≠ lvr.ownBlock := HFRR.out
            refine ⟨by omega, grown_after HR.out.grown HR.out.after hG5, HR.out.after.trans hA5 hws, ⟨ys ++ ys4, ?_, ?_⟩, ?_, fun _ => ⟨?_, ?_, ?_⟩⟩
            · have h := HO4.out
              rw [HST.out, ← List.append_assoc]
              rw [show k + 1 + (sizes ((kidsOf t).take j) + size u) = k + 1 + sizes ((kidsOf t).take j) + size u by omega]
              exact h
            · rw [HU.out, ← List.cons_append]
              exact Spots.append _ _ _ _ (Spots.go HG4.out HA4.out HFRR.out _ _ HSP.out) HS4.out
            · exact RepPsF.move (fun q hq hq2 => hG5.block q hq2 (hFr5 q hq)) (fun _ h _ => h) _ _ HR.out.kids
            · intro i y hi
              have h1 := HCZ.out i y hi
              rw [World.cell?_of_block (hG5.block gk hgk HGN.out)]; exact h1
            · exact Nat.lt_of_lt_of_le hgk hG5.size
            · rcases hA5 with h | ⟨q, h, hq⟩
              · rw [h]; exact HGN.out
              · rw [h]
                show some gk ≠ some q
                intro e; injection e with e
                have : gk < wr.heap.size := hgk
                omega
        · have hkl2 : (kidsOf t).take j = kidsOf t := List.take_of_length_le (by omega)
          go_wp2_with fail
          go_ret
          obtain ⟨ys, hown, hsp⟩ := HR.out.ex
          rw [hkl2] at hown hsp
          refine ⟨lvr, ys, rfl, ?_, HR.out.grown, HR.out.after, ?_⟩
          · have h := size_kids t
            rw [show k + size t = k + 1 + sizes (kidsOf t) by omega]
            exact hown
          · rw [subs_kids]; exact hsp

/-- What spots gives. -/
def SpotsPost (F : Nat → Prop) (w : World) (t : Term) (e : Ending) (w' : World) : Prop :=
  Below w.heap.size w w' ∧ ∃ g c ys, e = .returned (.slice (some ⟨g, 0, none⟩) (size t) c) ∧ w'.ownsRow w.heap.size 57 1 (.slice (some ⟨g, 0, none⟩) (size t) c) (size t) ys ∧ Spots F w' (some g) (subs t) ys

set_option maxHeartbeats 800000 in
theorem spots_any (F : Nat → Prop) (t : Term) (v : Value) (w : World) (hz : size t ≤ 9000) (hF : ∀ q, F q → q < w.heap.size) (hv : RepPF F w t v) :
    Calls Tryz.prog 41 #[v] w (SpotsPost F w t) := by
  obtain ⟨b, rfl⟩ := RepPF.ptr t v hv
  have hcall := spread_any (size t) F t (.pointer (some ⟨b, 0, none⟩)) (.slice none 0 0) w.heap.size w.heap.size 0 [] (w.alloc (.cells #[.pointer (some ⟨b, 0, none⟩), .pointer none, .int .i64 0] 59)) (Nat.le_refl _) (by omega) (by simp) hF (by simp) (by simp [Value.ownBlock]) (RepPF.move (fun q hq hq2 => Below.heap_alloc w _ q hq2) (fun _ h _ => h) _ _ hv) ⟨rfl, .inl ⟨rfl, rfl⟩⟩
  have HC := Lib.hid hcall
  have hsp := size_pos t
  clear hcall hv
  go_enter Tryz.func41, Tryz.ntmps41
  go_wp2_with (go_at_call 54; refine HC.out.mono ?_; rintro e w4 ⟨lv4, ys4, rfl, ho4, hg4, ha4, hs4⟩; have HO4 := Lib.hid ho4; have HG4 := Lib.hid hg4; have HS4 := Lib.hid hs4; clear ho4 hg4 ha4 hs4)
  go_ret
  have ho := HO4.out
  rw [Nat.zero_add, List.nil_append] at ho
  obtain ⟨A, c, rfl⟩ := own_shape ho
  obtain ⟨g, rfl, -⟩ := own_cells ho hsp
  have hG := grown_alloc HG4.out
  exact ⟨⟨hG.os, hG.tape, hG.output, hG.size, fun q hq => hG.block q hq (by simp [Value.ownBlock])⟩, g, c, ys4, rfl, ho, HS4.out⟩

end Go.Proofs.YtdijebbmjgmaiaaGreatDoor
