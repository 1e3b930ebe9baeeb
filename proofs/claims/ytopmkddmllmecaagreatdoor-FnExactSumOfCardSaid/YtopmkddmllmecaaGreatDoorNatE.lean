/- The program's fractions: times. -/
import Derived.Test.YtopmkddmllmecaaGreatDoorNatD
import Derived.Deep.RegionHeld3
import Derived.Deep.RegionWith
import Derived.Handy
namespace Go.Proofs.YtopmkddmllmecaaGreatDoor
open Go.RowKit Rt

/-- What gives a fraction. -/
def FracPost (w : World) (s : Bool) (t b : Nat) (e : Ending) (w' : World) : Prop := Below w.heap.size w w' ∧ ∃ v, e = .returned v ∧ FracRep w' v s t b

theorem blk_drewF {w : World} {g : Nat} {t : TypeId} {cs : Array Value} (h : Blk w g t cs) : Blk w.drew g t cs := h

theorem natDrew {w : World} {v : Value} {x : Nat} (h : NatRep w v x) : NatRep w.drew v x := h

theorem blk_three {w : World} {g : Nat} {t : TypeId} {x y z : Value} (h : Blk w g t #[x, y, z]) : w.cell? ⟨g, 0, none⟩ = some x ∧ w.cell? ⟨g, 1, none⟩ = some y ∧ w.cell? ⟨g, 2, none⟩ = some z :=
  ⟨(h.cell 0).trans rfl, (h.cell 1).trans rfl, (h.cell 2).trans rfl⟩

theorem set3_cell {w : World} {g h i : Nat} {x a b c : Value} (e : w.cell? ⟨h, i, none⟩ = some x) (hn : h ≠ g) : (((w.setCell ⟨g, 0, none⟩ a).setCell ⟨g, 1, none⟩ b).setCell ⟨g, 2, none⟩ c).cell? ⟨h, i, none⟩ = some x := by
  rw [World.cell?_of_block (a := ⟨h, i, none⟩) (Below.heap_setCell _ _ _ h (hn)), World.cell?_of_block (a := ⟨h, i, none⟩) (Below.heap_setCell _ _ _ h (hn)), World.cell?_of_block (a := ⟨h, i, none⟩) (Below.heap_setCell _ _ _ h (hn))]
  exact e

theorem six_drew {w0 W : World} {B g1 g2 g3 g4 g5 g6 j1 j2 j3 j4 j5 j6 : Nat} {x1 x2 x3 x4 x5 x6 : Value} (h : W.cell? ⟨g1, j1, none⟩ = some x1 ∧ W.cell? ⟨g2, j2, none⟩ = some x2 ∧ W.cell? ⟨g3, j3, none⟩ = some x3 ∧ W.cell? ⟨g4, j4, none⟩ = some x4 ∧ W.cell? ⟨g5, j5, none⟩ = some x5 ∧ W.cell? ⟨g6, j6, none⟩ = some x6 ∧ Below B w0 W) : W.drew.cell? ⟨g1, j1, none⟩ = some x1 ∧ W.drew.cell? ⟨g2, j2, none⟩ = some x2 ∧ W.drew.cell? ⟨g3, j3, none⟩ = some x3 ∧ W.drew.cell? ⟨g4, j4, none⟩ = some x4 ∧ W.drew.cell? ⟨g5, j5, none⟩ = some x5 ∧ W.drew.cell? ⟨g6, j6, none⟩ = some x6 ∧ Below B w0 W.drew :=
  ⟨h.1, h.2.1, h.2.2.1, h.2.2.2.1, h.2.2.2.2.1, h.2.2.2.2.2.1, h.2.2.2.2.2.2.drew⟩

theorem six_below {w0 W W2 : World} {g1 g2 g3 g4 g5 g6 j1 j2 j3 j4 j5 j6 : Nat} {x1 x2 x3 x4 x5 x6 : Value} (h : W.cell? ⟨g1, j1, none⟩ = some x1 ∧ W.cell? ⟨g2, j2, none⟩ = some x2 ∧ W.cell? ⟨g3, j3, none⟩ = some x3 ∧ W.cell? ⟨g4, j4, none⟩ = some x4 ∧ W.cell? ⟨g5, j5, none⟩ = some x5 ∧ W.cell? ⟨g6, j6, none⟩ = some x6 ∧ Below w0.heap.size w0 W) (hb : Below W.heap.size W W2) : W2.cell? ⟨g1, j1, none⟩ = some x1 ∧ W2.cell? ⟨g2, j2, none⟩ = some x2 ∧ W2.cell? ⟨g3, j3, none⟩ = some x3 ∧ W2.cell? ⟨g4, j4, none⟩ = some x4 ∧ W2.cell? ⟨g5, j5, none⟩ = some x5 ∧ W2.cell? ⟨g6, j6, none⟩ = some x6 ∧ Below w0.heap.size w0 W2 := by
  obtain ⟨k1, k2, k3, k4, k5, k6, k8⟩ := h
  exact ⟨(hb.cell (World.block_lt_of_cell? _ _ k1)).trans k1, (hb.cell (World.block_lt_of_cell? _ _ k2)).trans k2, (hb.cell (World.block_lt_of_cell? _ _ k3)).trans k3, (hb.cell (World.block_lt_of_cell? _ _ k4)).trans k4, (hb.cell (World.block_lt_of_cell? _ _ k5)).trans k5, (hb.cell (World.block_lt_of_cell? _ _ k6)).trans k6, k8.trans (hb.mono k8.size)⟩

theorem six_set {w0 W : World} {B g g1 g2 g3 g4 g5 g6 j1 j2 j3 j4 j5 j6 : Nat} {x1 x2 x3 x4 x5 x6 a b c : Value} (h : W.cell? ⟨g1, j1, none⟩ = some x1 ∧ W.cell? ⟨g2, j2, none⟩ = some x2 ∧ W.cell? ⟨g3, j3, none⟩ = some x3 ∧ W.cell? ⟨g4, j4, none⟩ = some x4 ∧ W.cell? ⟨g5, j5, none⟩ = some x5 ∧ W.cell? ⟨g6, j6, none⟩ = some x6 ∧ Below B w0 W) (hg : B ≤ g) (n1 : g1 < g) (n2 : g2 < g) (n3 : g3 < g) (n4 : g4 < g) (n5 : g5 < g) (n6 : g6 < g) : (((W.setCell ⟨g, 0, none⟩ a).setCell ⟨g, 1, none⟩ b).setCell ⟨g, 2, none⟩ c).cell? ⟨g1, j1, none⟩ = some x1 ∧ (((W.setCell ⟨g, 0, none⟩ a).setCell ⟨g, 1, none⟩ b).setCell ⟨g, 2, none⟩ c).cell? ⟨g2, j2, none⟩ = some x2 ∧ (((W.setCell ⟨g, 0, none⟩ a).setCell ⟨g, 1, none⟩ b).setCell ⟨g, 2, none⟩ c).cell? ⟨g3, j3, none⟩ = some x3 ∧ (((W.setCell ⟨g, 0, none⟩ a).setCell ⟨g, 1, none⟩ b).setCell ⟨g, 2, none⟩ c).cell? ⟨g4, j4, none⟩ = some x4 ∧ (((W.setCell ⟨g, 0, none⟩ a).setCell ⟨g, 1, none⟩ b).setCell ⟨g, 2, none⟩ c).cell? ⟨g5, j5, none⟩ = some x5 ∧ (((W.setCell ⟨g, 0, none⟩ a).setCell ⟨g, 1, none⟩ b).setCell ⟨g, 2, none⟩ c).cell? ⟨g6, j6, none⟩ = some x6 ∧ Below B w0 (((W.setCell ⟨g, 0, none⟩ a).setCell ⟨g, 1, none⟩ b).setCell ⟨g, 2, none⟩ c) := by
  obtain ⟨k1, k2, k3, k4, k5, k6, k8⟩ := h
  exact ⟨set3_cell k1 (by omega), set3_cell k2 (by omega), set3_cell k3 (by omega), set3_cell k4 (by omega), set3_cell k5 (by omega), set3_cell k6 (by omega), ((k8.setCell (p := ⟨g, 0, none⟩) hg _).setCell (p := ⟨g, 1, none⟩) hg _).setCell (p := ⟨g, 2, none⟩) hg _⟩

theorem set3_blk {w : World} {g : Nat} {t : TypeId} {x y z : Value} (h : Blk w g t #[x, y, z]) (a b c : Value) : Blk (((w.setCell ⟨g, 0, none⟩ a).setCell ⟨g, 1, none⟩ b).setCell ⟨g, 2, none⟩ c) g t #[a, b, c] := by
  have := ((h.set_ 0 a).set_ 1 b).set_ 2 c
  simpa using this

theorem NatRep.set3 {w : World} {v : Value} {x g : Nat} {t : TypeId} {a b c : Value} {p : Bool} {A1 A2 : Option Addr} {n1 c1 n2 c2 : Nat} (h : NatRep w v x) (hB : Blk w g t #[.bool p, .slice A1 n1 c1, .slice A2 n2 c2]) : NatRep (((w.setCell ⟨g, 0, none⟩ a).setCell ⟨g, 1, none⟩ b).setCell ⟨g, 2, none⟩ c) v x := by
  obtain ⟨h1, A, c', h2, h3, h4, h5⟩ := h
  refine ⟨h1, A, c', h2, h3, h4, fun hp => ?_⟩
  obtain ⟨g', o, e, c0, c1'⟩ := h5 hp
  have hne : ∀ (o : Nat) (z : Int), w.cell? ⟨g', o, none⟩ = some (.int .u32 z) → g' ≠ g := by
    intro o z hc e
    subst e
    have h6 := hB.cell o
    rw [hc] at h6
    match o, h6 with
    | 0, h6 => simp at h6
    | 1, h6 => simp at h6
    | 2, h6 => simp at h6
    | o + 3, h6 => simp at h6
  exact ⟨g', o, e, set3_cell c0 (hne o _ c0), fun h => set3_cell (c1' h) (hne (o + 1) _ (c1' h))⟩

theorem blk_three' {w : World} {g : Nat} {t : TypeId} {x y z : Value} (h : Blk w g t #[x, y, z]) : w.cell? ⟨g, 0, none⟩ = some x ∧ w.cell? ⟨g, 1, none⟩ = some y ∧ w.cell? ⟨g, 2, none⟩ = some z ∧ w.frozen? ⟨g, 0, none⟩ = false ∧ w.frozen? ⟨g, 1, none⟩ = false ∧ w.frozen? ⟨g, 2, none⟩ = false :=
  ⟨(h.cell 0).trans rfl, (h.cell 1).trans rfl, (h.cell 2).trans rfl, h.frozen 0, h.frozen 1, h.frozen 2⟩

set_option maxHeartbeats 3200000 in
set_option maxRecDepth 100000 in
theorem fracTimes_any (fv gv : Value) (s s' : Bool) (t b t' b' : Nat) (w : World) (h1 : t < 4294967296) (h2 : b < 4294967296) (h3 : t' < 4294967296) (h4 : b' < 4294967296) (hb : 0 < b) (hb' : 0 < b') (hf : FracRep w fv s t b) (hg : FracRep w gv s' t' b') :
    Calls Tryz.prog 74 #[fv, gv] w (FracPost w (s != s') ((t / Nat.gcd t b') * (t' / Nat.gcd t' b)) ((b / Nat.gcd t' b) * (b' / Nat.gcd t b'))) := by
  obtain ⟨x, y, rfl, hx, hy⟩ := hf
  obtain ⟨x', y', rfl, hx', hy'⟩ := hg
  obtain ⟨A1, n1, c1, rfl, -, -, -, -⟩ := hx.shape
  obtain ⟨A2, n2, c2, rfl, -, -, -, -⟩ := hy.shape
  obtain ⟨A3, n3, c3, rfl, -, -, -, -⟩ := hx'.shape
  obtain ⟨A4, n4, c4, rfl, -, -, -, -⟩ := hy'.shape
  have HX := Lib.hid hx
  have HY := Lib.hid hy
  have HX' := Lib.hid hx'
  have HY' := Lib.hid hy'
  have HG1 : Hid (∀ W, Below w.heap.size w W → Calls Tryz.prog 93 #[.slice A1 n1 c1, .slice A4 n4 c4] W (NatPost W (Nat.gcd t b'))) := fun W h => gcd_any _ _ t b' W (HX.out.below h) (HY'.out.below h)
  have HG2 : Hid (∀ W, Below w.heap.size w W → Calls Tryz.prog 93 #[.slice A3 n3 c3, .slice A2 n2 c2] W (NatPost W (Nat.gcd t' b))) := fun W h => gcd_any _ _ t' b W (HX'.out.below h) (HY.out.below h)
  clear hx hy hx' hy'
  go_enter Tryz.func74, Tryz.ntmps74
  go_wp2_with fail
  have hq1 : Blk ((((w.alloc (.cells #[.bool s, .slice A1 n1 c1, .slice A2 n2 c2] 58)).alloc (.cells #[.bool s', .slice A3 n3 c3, .slice A4 n4 c4] 58)).alloc (.cells #[.bool false, .slice none 0 0, .slice none 0 0] 58))) w.heap.size 58 #[.bool s, .slice A1 n1 c1, .slice A2 n2 c2] := ((Blk.new w _ _).alloc _).alloc _
  have hq2 : Blk ((((w.alloc (.cells #[.bool s, .slice A1 n1 c1, .slice A2 n2 c2] 58)).alloc (.cells #[.bool s', .slice A3 n3 c3, .slice A4 n4 c4] 58)).alloc (.cells #[.bool false, .slice none 0 0, .slice none 0 0] 58))) (w.heap.size + 1) 58 #[.bool s', .slice A3 n3 c3, .slice A4 n4 c4] := by
    have h := (Blk.new (w.alloc (.cells #[.bool s, .slice A1 n1 c1, .slice A2 n2 c2] 58)) 58 #[.bool s', .slice A3 n3 c3, .slice A4 n4 c4]).alloc (.cells #[.bool false, .slice none 0 0, .slice none 0 0] 58)
    simpa using h
  have hq3 : Blk ((((w.alloc (.cells #[.bool s, .slice A1 n1 c1, .slice A2 n2 c2] 58)).alloc (.cells #[.bool s', .slice A3 n3 c3, .slice A4 n4 c4] 58)).alloc (.cells #[.bool false, .slice none 0 0, .slice none 0 0] 58))) (w.heap.size + 1 + 1) 58 #[.bool false, .slice none 0 0, .slice none 0 0] := by
    have h := Blk.new ((w.alloc (.cells #[.bool s, .slice A1 n1 c1, .slice A2 n2 c2] 58)).alloc (.cells #[.bool s', .slice A3 n3 c3, .slice A4 n4 c4] 58)) 58 #[.bool false, .slice none 0 0, .slice none 0 0]
    simpa using h
  have hb3 : Below w.heap.size w ((((w.alloc (.cells #[.bool s, .slice A1 n1 c1, .slice A2 n2 c2] 58)).alloc (.cells #[.bool s', .slice A3 n3 c3, .slice A4 n4 c4] 58)).alloc (.cells #[.bool false, .slice none 0 0, .slice none 0 0] 58))) := by go_grown
  generalize (((w.alloc (.cells #[.bool s, .slice A1 n1 c1, .slice A2 n2 c2] 58)).alloc (.cells #[.bool s', .slice A3 n3 c3, .slice A4 n4 c4] 58)).alloc (.cells #[.bool false, .slice none 0 0, .slice none 0 0] 58)) = W3 at *
  have HQ1 := Lib.hid hq1
  have HQ2 := Lib.hid hq2
  have HQ3 := Lib.hid hq3
  have HB3 := Lib.hid hb3
  obtain ⟨r0, r1, r2⟩ := blk_three hq1
  obtain ⟨s0, s1, s2⟩ := blk_three hq2
  clear hq1 hq2 hq3 hb3
  have HS1 := six_drew ⟨r0, r1, r2, s0, s1, s2, HB3.out⟩
  have HQ3 := Lib.hid (blk_drewF HQ3.out)
  go_region_held3 (fun W' => (W'.cell? ⟨w.heap.size, 0, none⟩ = some (.bool s) ∧ W'.cell? ⟨w.heap.size, 1, none⟩ = some (.slice A1 n1 c1) ∧ W'.cell? ⟨w.heap.size, 2, none⟩ = some (.slice A2 n2 c2) ∧ W'.cell? ⟨w.heap.size + 1, 0, none⟩ = some (.bool s') ∧ W'.cell? ⟨w.heap.size + 1, 1, none⟩ = some (.slice A3 n3 c3) ∧ W'.cell? ⟨w.heap.size + 1, 2, none⟩ = some (.slice A4 n4 c4) ∧ Below w.heap.size w W'))
    (first
      | (with_reducible assumption)
      | (with_reducible exact six_below ‹_ ∧ _ ∧ _ ∧ _ ∧ _ ∧ _ ∧ Below _ _ _› hba)
      | (with_reducible exact six_set ‹_ ∧ _ ∧ _ ∧ _ ∧ _ ∧ _ ∧ Below _ _ _› (by omega) (by omega) (by omega) (by omega) (by omega) (by omega) (by omega)))
    (first
      | (go_at_call 93; (with_reducible refine Calls.mono (HG1.out _ (And.right (And.right (And.right (And.right (And.right (And.right ‹_ ∧ _ ∧ _ ∧ _ ∧ _ ∧ _ ∧ Below _ _ _›))))))) ?_); rintro e wa ⟨hba, va, rfl, hna⟩; obtain ⟨k1, k2, k3, k4, k5, k6, k8⟩ := (‹_ ∧ _ ∧ _ ∧ _ ∧ _ ∧ _ ∧ Below _ _ _›); (try have HNB := Lib.hid (HNB.out.below hba)); have HNA := Lib.hid hna; have HQ3 := Lib.hid (HQ3.out.below hba HQ3.out.lt); clear hna)
      | (go_at_call 93; (with_reducible refine Calls.mono (HG2.out _ (And.right (And.right (And.right (And.right (And.right (And.right ‹_ ∧ _ ∧ _ ∧ _ ∧ _ ∧ _ ∧ Below _ _ _›))))))) ?_); rintro e wa ⟨hba, va, rfl, hna⟩; obtain ⟨k1, k2, k3, k4, k5, k6, k8⟩ := (‹_ ∧ _ ∧ _ ∧ _ ∧ _ ∧ _ ∧ Below _ _ _›); (try have HNA := Lib.hid (HNA.out.below hba)); have HNB := Lib.hid hna; have HQ3 := Lib.hid (HQ3.out.below hba HQ3.out.lt); clear hna))
  have HGA : Hid (0 < Nat.gcd t b') := Nat.gcd_pos_of_pos_right t hb'
  have HGB : Hid (0 < Nat.gcd t' b) := Nat.gcd_pos_of_pos_right t' hb
  have HL1 : Hid (t / Nat.gcd t b' < 4294967296) := Nat.lt_of_le_of_lt (Nat.div_le_self _ _) h1
  have HL2 : Hid (t' / Nat.gcd t' b < 4294967296) := Nat.lt_of_le_of_lt (Nat.div_le_self _ _) h3
  have HL3 : Hid (b / Nat.gcd t' b < 4294967296) := Nat.lt_of_le_of_lt (Nat.div_le_self _ _) h2
  have HL4 : Hid (b' / Nat.gcd t b' < 4294967296) := Nat.lt_of_le_of_lt (Nat.div_le_self _ _) h4
  have HNA := Lib.hid (natDrew HNA.out)
  have HNB := Lib.hid (natDrew HNB.out)
  have HS2 := six_drew ‹_ ∧ _ ∧ _ ∧ _ ∧ _ ∧ _ ∧ Below _ _ _›
  go_wp2_with fail
  have HQ3 := Lib.hid (blk_drewF HQ3.out)
  go_region_held3 (fun W' => (W'.cell? ⟨w.heap.size, 0, none⟩ = some (.bool s) ∧ W'.cell? ⟨w.heap.size, 1, none⟩ = some (.slice A1 n1 c1) ∧ W'.cell? ⟨w.heap.size, 2, none⟩ = some (.slice A2 n2 c2) ∧ W'.cell? ⟨w.heap.size + 1, 0, none⟩ = some (.bool s') ∧ W'.cell? ⟨w.heap.size + 1, 1, none⟩ = some (.slice A3 n3 c3) ∧ W'.cell? ⟨w.heap.size + 1, 2, none⟩ = some (.slice A4 n4 c4) ∧ Below w.heap.size w W'))
    (first
      | (with_reducible assumption)
      | (with_reducible exact six_below ‹_ ∧ _ ∧ _ ∧ _ ∧ _ ∧ _ ∧ Below _ _ _› hba)
      | (with_reducible exact six_set ‹_ ∧ _ ∧ _ ∧ _ ∧ _ ∧ _ ∧ Below _ _ _› (by omega) (by omega) (by omega) (by omega) (by omega) (by omega) (by omega)))
    (first
      | (go_at_call 94; obtain ⟨k1, k2, k3, k4, k5, k6, k8⟩ := (‹_ ∧ _ ∧ _ ∧ _ ∧ _ ∧ _ ∧ Below _ _ _›); (with_reducible refine Calls.mono (over_any _ _ _ _ _ HGA.out (HX.out.below k8) HNA.out) ?_); rintro e wa ⟨hba, va, rfl, hna⟩; have HNA := Lib.hid (HNA.out.below hba); have HNB := Lib.hid (HNB.out.below hba); have HC1 := Lib.hid hna; have HQ3 := Lib.hid (HQ3.out.below hba HQ3.out.lt); clear hna)
      | (go_at_call 94; obtain ⟨k1, k2, k3, k4, k5, k6, k8⟩ := (‹_ ∧ _ ∧ _ ∧ _ ∧ _ ∧ _ ∧ Below _ _ _›); (with_reducible refine Calls.mono (over_any _ _ _ _ _ HGB.out (HX'.out.below k8) HNB.out) ?_); rintro e wa ⟨hba, va, rfl, hna⟩; have HNA := Lib.hid (HNA.out.below hba); have HNB := Lib.hid (HNB.out.below hba); have HC1 := Lib.hid (HC1.out.below hba); have HC2 := Lib.hid hna; have HQ3 := Lib.hid (HQ3.out.below hba HQ3.out.lt); clear hna)
      | (go_at_call 95; obtain ⟨k1, k2, k3, k4, k5, k6, k8⟩ := (‹_ ∧ _ ∧ _ ∧ _ ∧ _ ∧ _ ∧ Below _ _ _›); (with_reducible refine Calls.mono (times_any _ _ _ _ _ HL1.out HL2.out HC1.out HC2.out) ?_); rintro e wa ⟨hba, va, rfl, hna⟩; have HNA := Lib.hid (HNA.out.below hba); have HNB := Lib.hid (HNB.out.below hba); have HC3 := Lib.hid hna; have HQ3 := Lib.hid (HQ3.out.below hba HQ3.out.lt); obtain ⟨A5, n5, d5, rfl, -, -, -, -⟩ := hna.shape; clear hna)
      | (go_at_call 94; obtain ⟨k1, k2, k3, k4, k5, k6, k8⟩ := (‹_ ∧ _ ∧ _ ∧ _ ∧ _ ∧ _ ∧ Below _ _ _›); (with_reducible refine Calls.mono (over_any _ _ _ _ _ HGB.out (HY.out.below k8) HNB.out) ?_); rintro e wa ⟨hba, va, rfl, hna⟩; have HNA := Lib.hid (HNA.out.below hba); have HNB := Lib.hid (HNB.out.below hba); have HC3 := Lib.hid (HC3.out.below hba); have HC4 := Lib.hid hna; have HQ3 := Lib.hid (HQ3.out.below hba HQ3.out.lt); clear hna)
      | (go_at_call 94; obtain ⟨k1, k2, k3, k4, k5, k6, k8⟩ := (‹_ ∧ _ ∧ _ ∧ _ ∧ _ ∧ _ ∧ Below _ _ _›); (with_reducible refine Calls.mono (over_any _ _ _ _ _ HGA.out (HY'.out.below k8) HNA.out) ?_); rintro e wa ⟨hba, va, rfl, hna⟩; have HC3 := Lib.hid (HC3.out.below hba); have HC4 := Lib.hid (HC4.out.below hba); have HC5 := Lib.hid hna; have HQ3 := Lib.hid (HQ3.out.below hba HQ3.out.lt); clear hna)
      | (go_at_call 95; obtain ⟨k1, k2, k3, k4, k5, k6, k8⟩ := (‹_ ∧ _ ∧ _ ∧ _ ∧ _ ∧ _ ∧ Below _ _ _›); (with_reducible refine Calls.mono (times_any _ _ _ _ _ HL3.out HL4.out HC4.out HC5.out) ?_); rintro e wa ⟨hba, va, rfl, hna⟩; have HC3 := Lib.hid (HC3.out.below hba); have HC6 := Lib.hid hna; have HBK := Lib.hid (HQ3.out.below hba HQ3.out.lt); have HBL := Lib.hid (k8.trans (hba.mono k8.size)); obtain ⟨z0, z1, z2, y0, y1, y2⟩ := blk_three' HBK.out; obtain ⟨A6, n6, d6, rfl, -, -, -, -⟩ := hna.shape; clear hna)
      )
  all_goals
    have HS3 := ‹_ ∧ _ ∧ _ ∧ _ ∧ _ ∧ _ ∧ Below _ _ _›
    go_wp2_with fail
    obtain ⟨u0, u1, u2⟩ := blk_three (set3_blk HBK.out (.bool (!s == s')) (.slice A5 n5 d5) (.slice A6 n6 d6))
    refine bodyPost_ret (v := .agg #[.bool (!s == s'), .slice A5 n5 d5, .slice A6 n6 d6]) ?_ rfl ?_
    · simp [results, Tryz.results74, go_sem, u0, u1, u2]
    refine ⟨HS3.2.2.2.2.2.2, _, rfl, _, _, by (cases s <;> cases s' <;> rfl), HC3.out.set3 HBK.out, HC6.out.set3 HBK.out⟩

end Go.Proofs.YtopmkddmllmecaaGreatDoor
