/- slices.Equal at rows of pointers. -/
import Derived.Test.YtopmkddmllmecaaGreatDoorSwA
import Derived.LaidEqlPtr
namespace Go.Proofs.YtopmkddmllmecaaGreatDoor
open Go.RowKit Rt Go.Lib
open Go.ChangeMaps Go.MapKept Go.Maps Go.WideMaps

theorem Pool.below {F : Nat → Prop} {w W : World} {p m n : Nat} {D : DataW Value} (hP : Pool F w p m n D) (hb : Below w.heap.size w W) : Pool F W p m n D :=
  hP.go (hb.block p hP.plt) (hb.block m hP.map.lt) (fun k _ hk => hb.block k hk) (fun _ h _ => h) hP.far

theorem term_size6 : (Tryz.prog.info? 77).map (·.size) = some 7 := by kernel_rfl

theorem eql_same (b : Nat) (w : World) : (binOp .eql 74 (.pointer (some ⟨b, 0, none⟩)) (.pointer (some ⟨b, 0, none⟩))).run Tryz.prog w = .ok (.bool true) w := by
  obtain ⟨j, hj, -⟩ := Option.map_eq_some_iff.1 term_size6
  exact run_eql_ptr_same w ⟨b, 0, none⟩ Tryz.underlying74 hj

theorem eql_other {b c : Nat} {w : World} (h : b ≠ c) (hb : Live w b) (hc : Live w c) : (binOp .eql 74 (.pointer (some ⟨b, 0, none⟩)) (.pointer (some ⟨c, 0, none⟩))).run Tryz.prog w = .ok (.bool false) w := by
  obtain ⟨j, hj, hz⟩ := Option.map_eq_some_iff.1 term_size6
  obtain ⟨ca, ta, ha⟩ := hb
  obtain ⟨cb, tb, hb⟩ := hc
  exact run_eql_ptr_other w Tryz.underlying74 hj (by omega) (fun e => h (by injection e)) ha hb

theorem neq_same (b : Nat) (w : World) : (binOp .neq 74 (.pointer (some ⟨b, 0, none⟩)) (.pointer (some ⟨b, 0, none⟩))).run Tryz.prog w = .ok (.bool false) w := by
  obtain ⟨j, hj, -⟩ := Option.map_eq_some_iff.1 term_size6
  have h : ∀ d : Nat, (Op.equalIn (d + 1) 74 (.pointer (some ⟨b, 0, none⟩)) (.pointer (some ⟨b, 0, none⟩))).run Tryz.prog w = .ok true w := fun d => by
    simp [Op.equalIn, run_underlying Tryz.underlying74, sizeOf, typeInfo, hj, run_sameAddr_same]
  simp only [binOp]
  simp [Op.equal, Op.maxDepth, h 9999]

theorem neq_other {b c : Nat} {w : World} (hn : b ≠ c) (hb : Live w b) (hc : Live w c) : (binOp .neq 74 (.pointer (some ⟨b, 0, none⟩)) (.pointer (some ⟨c, 0, none⟩))).run Tryz.prog w = .ok (.bool true) w := by
  obtain ⟨j, hj, hz⟩ := Option.map_eq_some_iff.1 term_size6
  obtain ⟨ca, ta, ha⟩ := hb
  obtain ⟨cb, tb, hb⟩ := hc
  have hsz : j.size ≠ 0 := by omega
  have hne : (⟨b, 0, none⟩ : Addr) ≠ ⟨c, 0, none⟩ := fun e => hn (by injection e)
  have h : ∀ d : Nat, (Op.equalIn (d + 1) 74 (.pointer (some ⟨b, 0, none⟩)) (.pointer (some ⟨c, 0, none⟩))).run Tryz.prog w = .ok false w := fun d => by
    simp [Op.equalIn, run_underlying Tryz.underlying74, sizeOf, typeInfo, hj, hsz, run_sameAddr_other w hne ha hb]
  simp only [binOp]
  simp [Op.equal, Op.maxDepth, h 9999]

theorem live_below {w w' : World} {b : Nat} (h : Live w b) (hb : Below w.heap.size w w') : Live w' b := by
  obtain ⟨cs, t, e⟩ := h
  have hl : b < w.heap.size := by
    rcases Nat.lt_or_ge b w.heap.size with h | h
    · exact h
    · rw [Array.getElem?_eq_none h] at e; cases e
  exact ⟨cs, t, (hb.block b hl).trans e⟩

/-- A row of pointers. -/
def Ptrs (w : World) (A : Option Addr) (n : Nat) (xs : List Value) : Prop :=
  xs.length = n ∧ ∀ i x, xs[i]? = some x → (∃ b : Nat, x = .pointer (some ⟨b, 0, none⟩) ∧ Live w b) ∧ ∃ g : Nat, A = some ⟨g, 0, none⟩ ∧ w.cell? ⟨g, i, none⟩ = some x

theorem RepPF.live {F : Nat → Prop} {w : World} {t : Term} {b : Nat} (h : RepPF F w t (.pointer (some ⟨b, 0, none⟩))) : Live w b := by
  obtain ⟨b', _, _, _, e, h6, -⟩ := RepPF.head _ _ h
  injection e with e; injection e with e; injection e with e
  subst e
  exact h6.2.2.2.2.2.2.1

theorem ptrs_of {F : Nat → Prop} {w : World} {A : Option Addr} {n : Nat} {l : List Term} {xs : List Value} (hn : xs.length = n) (h : RepPsF F w l xs) (hc : ∀ i x, xs[i]? = some x → ∃ g : Nat, A = some ⟨g, 0, none⟩ ∧ w.cell? ⟨g, i, none⟩ = some x) : Ptrs w A n xs := by
  refine ⟨hn, fun i x hx => ⟨?_, hc i x hx⟩⟩
  have hl := RepPsF.length _ _ h
  have hi : i < l.length := by have := (List.getElem?_eq_some_iff.1 hx).1; omega
  obtain ⟨xv, hxv, hrep⟩ := RepPsF.at l xs i l[i] h (List.getElem?_eq_getElem hi)
  rw [hx] at hxv
  injection hxv with e
  subst e
  obtain ⟨b, _, _, _, e, -, -⟩ := RepPF.head _ _ hrep
  subst e
  exact ⟨b, rfl, RepPF.live hrep⟩

/-- What slices.Equal gives. -/
def EqualPost (w : World) (xs ys : List Value) (e : Ending) (w' : World) : Prop :=
  Below w.heap.size w w' ∧ ∃ r : Bool, e = .returned (.bool r) ∧ (r = true → xs = ys)

set_option maxHeartbeats 1600000 in
set_option maxRecDepth 100000 in
theorem equal_any (A C : Option Addr) (n m c d : Nat) (xs ys : List Value) (w : World) (hn : n ≤ maxLen) (hx : Ptrs w A n xs) (hy : Ptrs w C m ys) :
    Calls Tryz.prog 105 #[.slice A n c, .slice C m d] w (EqualPost w xs ys) := by
  have HX := Lib.hid hx
  have HY := Lib.hid hy
  unfold maxLen at hn
  clear hx hy
  have hn0 : 0 ≤ n := Nat.zero_le n
  by_cases hnm : n = m
  · subst hnm
    have d0 : ((n : Int) != (n : Int)) = false := by simp
    go_enter Tryz.func105, Tryz.ntmps105
    go_wp2_with fail
    go_loopw [13] (fun iv wr => ∃ j : Nat, j ≤ n ∧ iv = .int .i64 j ∧ Hid (Below w.heap.size w wr) ∧ Hid (xs.take j = ys.take j)) (fun iv _ => n - (intOf iv).toNat)
    case atStart => exact ⟨0, Nat.zero_le _, rfl, Below.refl _ _, (show _ = _ by simp)⟩
    case round =>
      obtain ⟨j, hj, rfl, hb, ht⟩ := hrel
      by_cases hlt : j < n
      · obtain ⟨xv, hxv⟩ : ∃ x, xs[j]? = some x := ⟨_, List.getElem?_eq_getElem (by rw [HX.out.1]; exact hlt)⟩
        obtain ⟨yv, hyv⟩ : ∃ x, ys[j]? = some x := ⟨_, List.getElem?_eq_getElem (by rw [HY.out.1]; exact hlt)⟩
        obtain ⟨⟨bx, rfl, lx⟩, g, rfl, cx⟩ := HX.out.2 j _ hxv
        obtain ⟨⟨by', rfl, ly⟩, g', rfl, cy⟩ := HY.out.2 j _ hyv
        have lx2 := (live_below lx hb.out)
        have ly2 := (live_below ly hb.out)
        have c1 : wr.cell? ⟨g, j, none⟩ = some (.pointer (some ⟨bx, 0, none⟩)) := (hb.out.cell (p := ⟨g, j, none⟩) (World.block_lt_of_cell? w _ cx)).trans cx
        have c2 : wr.cell? ⟨g', j, none⟩ = some (.pointer (some ⟨by', 0, none⟩)) := (hb.out.cell (p := ⟨g', j, none⟩) (World.block_lt_of_cell? w _ cy)).trans cy
        have HXV := Lib.hid hxv
        have HYV := Lib.hid hyv
        clear hxv hyv cx cy lx ly
        by_cases hbb : bx = by'
        · subst hbb
          have q1 := neq_same bx wr.drew
          clear lx2 ly2
          go_wp2_with fail
          go_region
          all_goals
            go_wp2_with fail
            go_roundw
            case rel =>
              refine ⟨j + 1, by omega, by go_num, ?_, ?_⟩
              · exact hb.out.trans (by go_grown)
              · show _ = _
                rw [List.take_add_one, List.take_add_one, HXV.out, HYV.out, ht.out]
            case measure => simp [intOf]; omega
        · have q1 := neq_other (w := wr.drew) hbb lx2 ly2
          clear lx2 ly2
          go_wp2_with fail
          go_region
          all_goals
            go_wp2_with fail
            go_ret
            exact ⟨hb.out.trans (by go_grown), false, rfl, fun h => by cases h⟩
      · obtain rfl : j = n := by omega
        go_wp2_with fail
        go_ret
        refine ⟨hb.out, true, rfl, fun _ => ?_⟩
        have := ht.out
        rwa [List.take_of_length_le (by rw [HX.out.1]; exact Nat.le_refl _), List.take_of_length_le (by rw [HY.out.1]; exact Nat.le_refl _)] at this
  · have d0 : ((n : Int) != (m : Int)) = true := by simp; omega
    go_enter Tryz.func105, Tryz.ntmps105
    go_wp2_with fail
    go_ret
    exact ⟨Below.refl _ _, false, rfl, fun h => by cases h⟩

end Go.Proofs.YtopmkddmllmecaaGreatDoor
