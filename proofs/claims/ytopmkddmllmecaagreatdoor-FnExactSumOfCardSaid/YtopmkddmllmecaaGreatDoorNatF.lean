/- The program's fractions: fractionOf, isFraction. -/
import Derived.Test.YtopmkddmllmecaaGreatDoorNatE
import Derived.Test.YtopmkddmllmecaaGreatDoorSumB
namespace Go.Proofs.YtopmkddmllmecaaGreatDoor
open Go.RowKit Rt

theorem below_alloc {w0 w : World} (h : Below w0.heap.size w0 w) (o : Obj) : Below w0.heap.size w0 (w.alloc o) := h.alloc h.size o

theorem frac_mk {w : World} {s : Bool} {t b : Nat} {x y : Value} (hx : NatRep w x t) (hy : NatRep w y b) : FracRep w (.agg #[.bool s, x, y]) s t b := ⟨x, y, rfl, hx, hy⟩

theorem three_drew {w0 W : World} {g : Nat} {x1 x2 x3 : Value} (h : W.cell? ⟨g, 0, none⟩ = some x1 ∧ W.cell? ⟨g, 1, none⟩ = some x2 ∧ W.cell? ⟨g, 2, none⟩ = some x3 ∧ Below w0.heap.size w0 W) : W.drew.cell? ⟨g, 0, none⟩ = some x1 ∧ W.drew.cell? ⟨g, 1, none⟩ = some x2 ∧ W.drew.cell? ⟨g, 2, none⟩ = some x3 ∧ Below w0.heap.size w0 W.drew := ⟨h.1, h.2.1, h.2.2.1, h.2.2.2.drew⟩

theorem three_below {w0 W W2 : World} {g : Nat} {x1 x2 x3 : Value} (h : W.cell? ⟨g, 0, none⟩ = some x1 ∧ W.cell? ⟨g, 1, none⟩ = some x2 ∧ W.cell? ⟨g, 2, none⟩ = some x3 ∧ Below w0.heap.size w0 W) (hb : Below W.heap.size W W2) : W2.cell? ⟨g, 0, none⟩ = some x1 ∧ W2.cell? ⟨g, 1, none⟩ = some x2 ∧ W2.cell? ⟨g, 2, none⟩ = some x3 ∧ Below w0.heap.size w0 W2 := by
  obtain ⟨k1, k2, k3, k8⟩ := h
  exact ⟨(hb.cell (World.block_lt_of_cell? _ _ k1)).trans k1, (hb.cell (World.block_lt_of_cell? _ _ k2)).trans k2, (hb.cell (World.block_lt_of_cell? _ _ k3)).trans k3, k8.trans (hb.mono k8.size)⟩

theorem three_set {w0 W : World} {g g' : Nat} {x1 x2 x3 a b c : Value} (h : W.cell? ⟨g, 0, none⟩ = some x1 ∧ W.cell? ⟨g, 1, none⟩ = some x2 ∧ W.cell? ⟨g, 2, none⟩ = some x3 ∧ Below w0.heap.size w0 W) (hg : w0.heap.size ≤ g') (hn : g ≠ g') : (((W.setCell ⟨g', 0, none⟩ a).setCell ⟨g', 1, none⟩ b).setCell ⟨g', 2, none⟩ c).cell? ⟨g, 0, none⟩ = some x1 ∧ (((W.setCell ⟨g', 0, none⟩ a).setCell ⟨g', 1, none⟩ b).setCell ⟨g', 2, none⟩ c).cell? ⟨g, 1, none⟩ = some x2 ∧ (((W.setCell ⟨g', 0, none⟩ a).setCell ⟨g', 1, none⟩ b).setCell ⟨g', 2, none⟩ c).cell? ⟨g, 2, none⟩ = some x3 ∧ Below w0.heap.size w0 (((W.setCell ⟨g', 0, none⟩ a).setCell ⟨g', 1, none⟩ b).setCell ⟨g', 2, none⟩ c) := by
  obtain ⟨k1, k2, k3, k8⟩ := h
  exact ⟨set3_cell k1 hn, set3_cell k2 hn, set3_cell k3 hn, ((k8.setCell (p := ⟨g', 0, none⟩) hg _).setCell (p := ⟨g', 1, none⟩) hg _).setCell (p := ⟨g', 2, none⟩) hg _⟩

theorem NatRep.drew {w : World} {v : Value} {x : Nat} (h : NatRep w v x) : NatRep w.drew v x := h

/-- A fraction of numbers. -/
def fracTop (t b : Int) : Nat := t.natAbs / Nat.gcd t.natAbs b.natAbs
def fracBot (t b : Int) : Nat := b.natAbs / Nat.gcd t.natAbs b.natAbs

set_option maxHeartbeats 3200000 in
set_option maxRecDepth 100000 in
theorem fractionOf_any (t b : Int) (w : World) (h1 : -1000000000 ≤ t) (h2 : t ≤ 1000000000) (h3 : 1 ≤ b) (h4 : b ≤ 1000000000) :
    Calls Tryz.prog 41 #[.int .i64 t, .int .i64 b] w (FracPost w (decide (t < 0)) (fracTop t b) (fracBot t b)) := by
  have e1 : max t (-t) = (t.natAbs : Int) := by omega
  have e2 : (b : Int) = (b.natAbs : Int) := by omega
  have HNO : Hid (∀ W (n : Nat), n < 18446744073709551616 → Calls Tryz.prog 73 #[.int .u64 n] W (NatPost W n)) := fun W n h => naturalOf_any n W h
  have HNC : Hid (∀ W, Calls Tryz.prog 73 #[.int .u64 1] W (NatPost W 1)) := fun W => naturalOf_any 1 W (by omega)
  obtain ⟨z, hz⟩ : ∃ z, z = t.natAbs := ⟨_, rfl⟩
  obtain ⟨y, hy⟩ : ∃ y, y = b.natAbs := ⟨_, rfl⟩
  have HR : Hid (fracTop t b = z / Nat.gcd z y * (1 / Nat.gcd 1 1) ∧ fracBot t b = 1 / Nat.gcd 1 1 * (y / Nat.gcd z y)) := by
    subst hz; subst hy
    exact ⟨by simp [fracTop], by simp [fracBot]⟩
  rw [HR.out.1, HR.out.2]
  have hz1 : z ≤ 1000000000 := by omega
  have hy1 : 1 ≤ y ∧ y ≤ 1000000000 := by omega
  have HT : Hid (∀ (W : World) (fv gv : Value), FracRep W fv (decide (t < 0)) z 1 → FracRep W gv false 1 y → Calls Tryz.prog 74 #[fv, gv] W (FracPost W (decide (t < 0) != false) (z / Nat.gcd z y * (1 / Nat.gcd 1 1)) (1 / Nat.gcd 1 1 * (y / Nat.gcd z y)))) :=
    fun W fv gv hf hg => fracTimes_any fv gv _ _ _ _ _ _ W (by omega) (by omega) (by omega) (by omega) (by omega) (by omega) hf hg
  rw [← hz] at e1
  rw [← hy] at e2
  clear HR
  generalize z / Nat.gcd z y * (1 / Nat.gcd 1 1) = rt at HT ⊢
  generalize 1 / Nat.gcd 1 1 * (y / Nat.gcd z y) = rb at HT ⊢
  have e3 : IntKind.i64.wrap (-t) = -t := IntWalk.i64_in _ (by omega)
  have HE2 := Lib.hid e2
  have e4 : IntKind.u64.wrap b = (y : Int) := by rw [e2]; exact IntWalk.u64_in _ (by omega)
  have e5 : IntKind.u64.wrap (z : Int) = (z : Int) := IntWalk.u64_in _ (by omega)
  clear e2 hz hy
  have hcase : (t = (z : Int) ∧ ¬ ((z : Int) < -(z : Int))) ∨ (t = -(z : Int) ∧ -(z : Int) < - -(z : Int)) := by omega
  clear e1 h1 h2
  generalize hs : decide (t < 0) = s at HT ⊢
  have hs2 : t = -(z : Int) → decide (0 < z) = s := by
    intro e
    rw [← hs, decide_eq_decide]
    omega
  rcases hcase with ⟨rfl, m1⟩ | ⟨rfl, m1⟩
  · clear hs2
    go_enter Tryz.func41, Tryz.ntmps41
    go_wp2_with (first
      | (go_at_call 73; (with_reducible refine (HNO.out _ z (by omega)).mono ?_); rintro e wa ⟨hba, va, rfl, hna⟩; obtain ⟨Ax, nx, cx, rfl, -, -, -, -⟩ := hna.shape; have HN1 := Lib.hid hna; have HB1 := Lib.hid hba; clear hba hna)
      | (go_at_call 73; (with_reducible refine (HNC.out _).mono ?_); rintro e wb ⟨hba, va, rfl, hna⟩; obtain ⟨Ay, ny, cy, rfl, -, -, -, -⟩ := hna.shape; have HN2 := Lib.hid hna; have HB2 := Lib.hid hba; clear hba hna))
    have HBR : Hid (Blk wa w.heap.size 58 #[.bool false, .slice none 0 0, .slice none 0 0]) := (Blk.new w 58 _).below HB1.out (Blk.new w 58 _).lt
    have HBW : Hid (Below w.heap.size w wb) := ((below_alloc (Below.refl _ w) _).trans (HB1.out.mono (by simp))).trans (HB2.out.mono (by have := HB1.out.size; simp at this; omega))
    have HBA : Hid (Below wb.heap.size wb (wb.alloc (.cells #[.bool s, .slice Ax nx cx, .slice Ay ny cy] 58))) := below_alloc (Below.refl _ _) _
    have HN1 := Lib.hid (HN1.out.below HB2.out)
    have hwb : w.heap.size + 1 ≤ wb.heap.size := by have h1 := HB1.out.size; have h2 := HB2.out.size; simp at h1; omega
    have HS1 := three_drew (w0 := w) (x1 := .bool s) (x2 := .slice Ax nx cx) (x3 := .slice Ay ny cy) ⟨(Blk.new wb 58 #[.bool s, .slice Ax nx cx, .slice Ay ny cy]).cell 0, (Blk.new wb 58 #[.bool s, .slice Ax nx cx, .slice Ay ny cy]).cell 1, (Blk.new wb 58 #[.bool s, .slice Ax nx cx, .slice Ay ny cy]).cell 2, below_alloc HBW.out _⟩
    have HN1 := Lib.hid ((HN1.out.below HBA.out).drew)
    have HN2 := Lib.hid ((HN2.out.below HBA.out).drew)
    have HQ3 := Lib.hid (blk_drewF ((Blk.below HBR.out HB2.out HBR.out.lt).alloc (.cells #[.bool s, .slice Ax nx cx, .slice Ay ny cy] 58)))
    go_region_held3 (fun W' => (W'.cell? ⟨wb.heap.size, 0, none⟩ = some (.bool s) ∧ W'.cell? ⟨wb.heap.size, 1, none⟩ = some (.slice Ax nx cx) ∧ W'.cell? ⟨wb.heap.size, 2, none⟩ = some (.slice Ay ny cy) ∧ Below w.heap.size w W'))
      (first
        | (with_reducible assumption)
        | (with_reducible exact three_below ‹_ ∧ _ ∧ _ ∧ Below _ _ _› hba)
        | (with_reducible exact three_set ‹_ ∧ _ ∧ _ ∧ Below _ _ _› (Nat.le_refl _) (by omega)))
      (first
        | (go_at_call 73; obtain ⟨k1, k2, k3, k8⟩ := (‹_ ∧ _ ∧ _ ∧ Below _ _ _›); (with_reducible refine Calls.mono (HNC.out _) ?_); rintro e wa ⟨hba, va, rfl, hna⟩; obtain ⟨A5, n5, d5, rfl, -, -, -, -⟩ := hna.shape; have HN1 := Lib.hid (HN1.out.below hba); have HN2 := Lib.hid (HN2.out.below hba); have HC1 := Lib.hid hna; have HQ3 := Lib.hid (HQ3.out.below hba HQ3.out.lt); clear hna)
        | (go_at_call 73; obtain ⟨k1, k2, k3, k8⟩ := (‹_ ∧ _ ∧ _ ∧ Below _ _ _›); (with_reducible refine Calls.mono (HNO.out _ y (by omega)) ?_); rintro e wa ⟨hba, va, rfl, hna⟩; obtain ⟨A6, n6, d6, rfl, -, -, -, -⟩ := hna.shape; have HN1 := Lib.hid (HN1.out.below hba); have HN2 := Lib.hid (HN2.out.below hba); have HC1 := Lib.hid (HC1.out.below hba); have HC2 := Lib.hid hna; have HQ3 := Lib.hid (HQ3.out.below hba HQ3.out.lt); clear hna)
        | (go_at_call 74; obtain ⟨k1, k2, k3, k8⟩ := (‹_ ∧ _ ∧ _ ∧ Below _ _ _›); (with_reducible refine Calls.mono (HT.out _ _ _ (frac_mk HN1.out HN2.out) (frac_mk HC1.out HC2.out)) ?_); rintro e wa ⟨hba, va, rfl, hna⟩; obtain ⟨vx, vy, rfl, hn3, hn4⟩ := hna; obtain ⟨A7, n7, d7, rfl, -, -, -, -⟩ := hn3.shape; obtain ⟨A8, n8, d8, rfl, -, -, -, -⟩ := hn4.shape; have HC3 := Lib.hid hn3; have HC4 := Lib.hid hn4; have HBK := Lib.hid (HQ3.out.below hba HQ3.out.lt); obtain ⟨z0, z1, z2, y0, y1, y2⟩ := blk_three' HBK.out; clear hn3 hn4))
    all_goals
      have HS3 := ‹_ ∧ _ ∧ _ ∧ Below _ _ _›
      go_wp2_with fail
      obtain ⟨u0, u1, u2⟩ := blk_three (set3_blk HBK.out (.bool s) (.slice A7 n7 d7) (.slice A8 n8 d8))
      refine bodyPost_ret (v := .agg #[.bool s, .slice A7 n7 d7, .slice A8 n8 d8]) ?_ rfl ?_
      · simp [results, Tryz.results41, go_sem, u0, u1, u2]
      · exact ⟨HS3.2.2.2, _, rfl, _, _, by (cases s <;> rfl), HC3.out.set3 HBK.out, HC4.out.set3 HBK.out⟩
  · have hs3 := hs2 rfl
    clear hs2
    have m2 := Int.neg_neg (z : Int)
    go_enter Tryz.func41, Tryz.ntmps41
    go_wp2_with (first
      | (go_at_call 73; (with_reducible refine (HNO.out _ z (by omega)).mono ?_); rintro e wa ⟨hba, va, rfl, hna⟩; obtain ⟨Ax, nx, cx, rfl, -, -, -, -⟩ := hna.shape; have HN1 := Lib.hid hna; have HB1 := Lib.hid hba; clear hba hna)
      | (go_at_call 73; (with_reducible refine (HNC.out _).mono ?_); rintro e wb ⟨hba, va, rfl, hna⟩; obtain ⟨Ay, ny, cy, rfl, -, -, -, -⟩ := hna.shape; have HN2 := Lib.hid hna; have HB2 := Lib.hid hba; clear hba hna))
    have HBR : Hid (Blk wa w.heap.size 58 #[.bool false, .slice none 0 0, .slice none 0 0]) := (Blk.new w 58 _).below HB1.out (Blk.new w 58 _).lt
    have HBW : Hid (Below w.heap.size w wb) := ((below_alloc (Below.refl _ w) _).trans (HB1.out.mono (by simp))).trans (HB2.out.mono (by have := HB1.out.size; simp at this; omega))
    have HBA : Hid (Below wb.heap.size wb (wb.alloc (.cells #[.bool s, .slice Ax nx cx, .slice Ay ny cy] 58))) := below_alloc (Below.refl _ _) _
    have HN1 := Lib.hid (HN1.out.below HB2.out)
    have hwb : w.heap.size + 1 ≤ wb.heap.size := by have h1 := HB1.out.size; have h2 := HB2.out.size; simp at h1; omega
    have HS1 := three_drew (w0 := w) (x1 := .bool s) (x2 := .slice Ax nx cx) (x3 := .slice Ay ny cy) ⟨(Blk.new wb 58 #[.bool s, .slice Ax nx cx, .slice Ay ny cy]).cell 0, (Blk.new wb 58 #[.bool s, .slice Ax nx cx, .slice Ay ny cy]).cell 1, (Blk.new wb 58 #[.bool s, .slice Ax nx cx, .slice Ay ny cy]).cell 2, below_alloc HBW.out _⟩
    have HN1 := Lib.hid ((HN1.out.below HBA.out).drew)
    have HN2 := Lib.hid ((HN2.out.below HBA.out).drew)
    have HQ3 := Lib.hid (blk_drewF ((Blk.below HBR.out HB2.out HBR.out.lt).alloc (.cells #[.bool s, .slice Ax nx cx, .slice Ay ny cy] 58)))
    go_region_held3 (fun W' => (W'.cell? ⟨wb.heap.size, 0, none⟩ = some (.bool s) ∧ W'.cell? ⟨wb.heap.size, 1, none⟩ = some (.slice Ax nx cx) ∧ W'.cell? ⟨wb.heap.size, 2, none⟩ = some (.slice Ay ny cy) ∧ Below w.heap.size w W'))
      (first
        | (with_reducible assumption)
        | (with_reducible exact three_below ‹_ ∧ _ ∧ _ ∧ Below _ _ _› hba)
        | (with_reducible exact three_set ‹_ ∧ _ ∧ _ ∧ Below _ _ _› (Nat.le_refl _) (by omega)))
      (first
        | (go_at_call 73; obtain ⟨k1, k2, k3, k8⟩ := (‹_ ∧ _ ∧ _ ∧ Below _ _ _›); (with_reducible refine Calls.mono (HNC.out _) ?_); rintro e wa ⟨hba, va, rfl, hna⟩; obtain ⟨A5, n5, d5, rfl, -, -, -, -⟩ := hna.shape; have HN1 := Lib.hid (HN1.out.below hba); have HN2 := Lib.hid (HN2.out.below hba); have HC1 := Lib.hid hna; have HQ3 := Lib.hid (HQ3.out.below hba HQ3.out.lt); clear hna)
        | (go_at_call 73; obtain ⟨k1, k2, k3, k8⟩ := (‹_ ∧ _ ∧ _ ∧ Below _ _ _›); (with_reducible refine Calls.mono (HNO.out _ y (by omega)) ?_); rintro e wa ⟨hba, va, rfl, hna⟩; obtain ⟨A6, n6, d6, rfl, -, -, -, -⟩ := hna.shape; have HN1 := Lib.hid (HN1.out.below hba); have HN2 := Lib.hid (HN2.out.below hba); have HC1 := Lib.hid (HC1.out.below hba); have HC2 := Lib.hid hna; have HQ3 := Lib.hid (HQ3.out.below hba HQ3.out.lt); clear hna)
        | (go_at_call 74; obtain ⟨k1, k2, k3, k8⟩ := (‹_ ∧ _ ∧ _ ∧ Below _ _ _›); (with_reducible refine Calls.mono (HT.out _ _ _ (frac_mk HN1.out HN2.out) (frac_mk HC1.out HC2.out)) ?_); rintro e wa ⟨hba, va, rfl, hna⟩; obtain ⟨vx, vy, rfl, hn3, hn4⟩ := hna; obtain ⟨A7, n7, d7, rfl, -, -, -, -⟩ := hn3.shape; obtain ⟨A8, n8, d8, rfl, -, -, -, -⟩ := hn4.shape; have HC3 := Lib.hid hn3; have HC4 := Lib.hid hn4; have HBK := Lib.hid (HQ3.out.below hba HQ3.out.lt); obtain ⟨z0, z1, z2, y0, y1, y2⟩ := blk_three' HBK.out; clear hn3 hn4))
    all_goals
      have HS3 := ‹_ ∧ _ ∧ _ ∧ Below _ _ _›
      go_wp2_with fail
      obtain ⟨u0, u1, u2⟩ := blk_three (set3_blk HBK.out (.bool s) (.slice A7 n7 d7) (.slice A8 n8 d8))
      refine bodyPost_ret (v := .agg #[.bool s, .slice A7 n7 d7, .slice A8 n8 d8]) ?_ rfl ?_
      · simp [results, Tryz.results41, go_sem, u0, u1, u2]
      · exact ⟨HS3.2.2.2, _, rfl, _, _, by (cases s <;> rfl), HC3.out.set3 HBK.out, HC4.out.set3 HBK.out⟩

end Go.Proofs.YtopmkddmllmecaaGreatDoor
