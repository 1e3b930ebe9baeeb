/- The model's l5Coherent. -/
import Derived.Test.YtopmkddmllmecaaGreatDoorCoC
set_option linter.unusedSimpArgs false
set_option linter.unusedVariables false
namespace Go.Proofs.YtopmkddmllmecaaGreatDoor
open Go.RowKit Rt Go.Lib

theorem bel9 {a b c d e f g h x : Prop} (k : a ∧ b ∧ c ∧ d ∧ e ∧ f ∧ g ∧ h ∧ x) : x := k.2.2.2.2.2.2.2.2

theorem eight_drew {w0 W : World} {g1 g2 g3 g4 g5 g6 g7 g8 j1 j2 j3 j4 j5 j6 j7 j8 : Nat} {x1 x2 x3 x4 x5 x6 x7 x8 : Value} (h : W.cell? ⟨g1, j1, none⟩ = some x1 ∧ W.cell? ⟨g2, j2, none⟩ = some x2 ∧ W.cell? ⟨g3, j3, none⟩ = some x3 ∧ W.cell? ⟨g4, j4, none⟩ = some x4 ∧ W.cell? ⟨g5, j5, none⟩ = some x5 ∧ W.cell? ⟨g6, j6, none⟩ = some x6 ∧ W.cell? ⟨g7, j7, none⟩ = some x7 ∧ W.cell? ⟨g8, j8, none⟩ = some x8 ∧ Below w0.heap.size w0 W) : W.drew.cell? ⟨g1, j1, none⟩ = some x1 ∧ W.drew.cell? ⟨g2, j2, none⟩ = some x2 ∧ W.drew.cell? ⟨g3, j3, none⟩ = some x3 ∧ W.drew.cell? ⟨g4, j4, none⟩ = some x4 ∧ W.drew.cell? ⟨g5, j5, none⟩ = some x5 ∧ W.drew.cell? ⟨g6, j6, none⟩ = some x6 ∧ W.drew.cell? ⟨g7, j7, none⟩ = some x7 ∧ W.drew.cell? ⟨g8, j8, none⟩ = some x8 ∧ Below w0.heap.size w0 W.drew := by
  obtain ⟨k1, k2, k3, k4, k5, k6, k7, k8, k9⟩ := h
  exact ⟨k1, k2, k3, k4, k5, k6, k7, k8, k9.drew⟩

theorem eight_below {w0 W W2 : World} {g1 g2 g3 g4 g5 g6 g7 g8 j1 j2 j3 j4 j5 j6 j7 j8 : Nat} {x1 x2 x3 x4 x5 x6 x7 x8 : Value} (h : W.cell? ⟨g1, j1, none⟩ = some x1 ∧ W.cell? ⟨g2, j2, none⟩ = some x2 ∧ W.cell? ⟨g3, j3, none⟩ = some x3 ∧ W.cell? ⟨g4, j4, none⟩ = some x4 ∧ W.cell? ⟨g5, j5, none⟩ = some x5 ∧ W.cell? ⟨g6, j6, none⟩ = some x6 ∧ W.cell? ⟨g7, j7, none⟩ = some x7 ∧ W.cell? ⟨g8, j8, none⟩ = some x8 ∧ Below w0.heap.size w0 W) (hb : Below W.heap.size W W2) : W2.cell? ⟨g1, j1, none⟩ = some x1 ∧ W2.cell? ⟨g2, j2, none⟩ = some x2 ∧ W2.cell? ⟨g3, j3, none⟩ = some x3 ∧ W2.cell? ⟨g4, j4, none⟩ = some x4 ∧ W2.cell? ⟨g5, j5, none⟩ = some x5 ∧ W2.cell? ⟨g6, j6, none⟩ = some x6 ∧ W2.cell? ⟨g7, j7, none⟩ = some x7 ∧ W2.cell? ⟨g8, j8, none⟩ = some x8 ∧ Below w0.heap.size w0 W2 := by
  obtain ⟨k1, k2, k3, k4, k5, k6, k7, k8, k9⟩ := h
  exact ⟨below_keeps hb _ _ k1, below_keeps hb _ _ k2, below_keeps hb _ _ k3, below_keeps hb _ _ k4, below_keeps hb _ _ k5, below_keeps hb _ _ k6, below_keeps hb _ _ k7, below_keeps hb _ _ k8, k9.trans (hb.mono k9.size)⟩

/-- The text of an atom, or none. -/
def atomOf (t : Term) : B := match atomT t with
  | some s => s
  | none => []

/-- What lies in lam or app at first. -/
def firstOf : Term → Term
  | .lam t => t
  | .app t _ => t
  | t => t

theorem val_shape (t : Term) (v : Value) (w : World) (h : RepS w (ofTerm t) v) : ∃ A n c, v = .agg #[.string ⟨(atomOf t).toArray⟩, .slice A n c] := by
  cases t with
  | nm s => rw [ofTerm, RepS] at h; exact ⟨none, 0, 0, h⟩
  | ix s => rw [ofTerm, RepS] at h; exact ⟨none, 0, 0, h⟩
  | lam t => obtain ⟨b, c, _, _, _, rfl, _⟩ := repS_lam h; exact ⟨_, _, _, rfl⟩
  | app t l => obtain ⟨b, c, _, _, _, _, _, _, rfl, _⟩ := repS_app h; exact ⟨_, _, _, rfl⟩

theorem list_shape (t : Term) (v : Value) (w : World) (ha : atomT t = none) (h : RepS w (ofTerm t) v) :
    ∃ b n c x y, v = .agg #[.string ⟨#[]⟩, .slice (some ⟨b, 0, none⟩) n c] ∧ 2 ≤ n ∧ n ≤ c ∧ c ≤ maxLen ∧ w.cell? ⟨b, 2, none⟩ = some x ∧ w.cell? ⟨b, 3, none⟩ = some y ∧ RepS w (ofTerm (firstOf t)) (.agg #[x, y]) := by
  cases t with
  | nm s => simp [atomT] at ha
  | ix s => simp [atomT] at ha
  | lam t => obtain ⟨b, c, y0, x1, y1, rfl, h1, h2, c0, c1, c2, c3, ht⟩ := repS_lam h; exact ⟨b, 2, c, x1, y1, rfl, by omega, h1, h2, c2, c3, ht⟩
  | app t l => obtain ⟨b, c, y0, x1, y1, gb, db, ys, rfl, h1, h2, c0, c1, c2, c3, ht, _⟩ := repS_app h; exact ⟨b, 3, c, x1, y1, rfl, by omega, h1, h2, c2, c3, ht⟩

set_option maxHeartbeats 800000 in
set_option maxRecDepth 100000 in
theorem coh_atoms (x y : B) (A C : Option Addr) (n c m d : Nat) (w : World) (h : x ≠ [] ∨ y ≠ []) :
    Calls Tryz.prog 61 #[.agg #[.string ⟨x.toArray⟩, .slice A n c], .agg #[.string ⟨y.toArray⟩, .slice C m d]] w fun e w' => e = .returned (.bool (x == y)) ∧ Below w.heap.size w w' := by
  cases x with
  | cons a x =>
    go_enter Tryz.func61, Tryz.ntmps61
    go_wp2_with fail
    go_ret
    exact ⟨rfl, by go_grown⟩
  | nil =>
    cases y with
    | nil => simp at h
    | cons b y =>
      go_enter Tryz.func61, Tryz.ntmps61
      go_wp2_with fail
      go_ret
      exact ⟨rfl, by go_grown⟩

set_option maxHeartbeats 3200000 in
set_option maxRecDepth 100000 in
theorem coh_heads (s t : Term) (va vb : Value) (w : World) (hs : atomT s = none) (ht : atomT t = none) (hr0 : RepS w (ofTerm s) va) (hr1 : RepS w (ofTerm t) vb) (hq : (headT (ofTerm s) == headT (ofTerm t)) = false) :
    Calls Tryz.prog 61 #[va, vb] w fun e w' => e = .returned (.bool false) ∧ Below w.heap.size w w' := by
  obtain ⟨b0, n0, c0, x0, y0, rfl, i01, i02, i03, p02, p03, hf0⟩ := list_shape s va w hs hr0
  obtain ⟨b1, n1, c1, x1, y1, rfl, i11, i12, i13, p12, p13, hf1⟩ := list_shape t vb w ht hr1
  have HH0 : Hid (∀ W, Below w.heap.size w W → Calls Tryz.prog 90 #[.agg #[.string ⟨#[]⟩, .slice (some ⟨b0, 0, none⟩) n0 c0]] W fun e w' => e = .returned (.string ⟨(headT (ofTerm s)).toArray⟩) ∧ Below W.heap.size W w') := fun W hW => l1Head_any _ _ W (hr0.keep (below_keeps hW))
  have HH1 : Hid (∀ W, Below w.heap.size w W → Calls Tryz.prog 90 #[.agg #[.string ⟨#[]⟩, .slice (some ⟨b1, 0, none⟩) n1 c1]] W fun e w' => e = .returned (.string ⟨(headT (ofTerm t)).toArray⟩) ∧ Below W.heap.size W w') := fun W hW => l1Head_any _ _ W (hr1.keep (below_keeps hW))
  have P := Lib.hid (And.intro p02 (And.intro p03 (And.intro p12 p13)))
  have HR := Lib.hid (And.intro hr0 hr1)
  unfold maxLen at i03 i13
  have i04 : 1 < n0 := by omega
  have i14 : 1 < n1 := by omega
  have i05 : (1 : Int) < (n0 : Int) := by omega
  have i15 : (1 : Int) < (n1 : Int) := by omega
  clear hs ht hr0 hr1 p02 p03 p12 p13 hf0 hf1
  generalize headT (ofTerm s) = h0 at HH0 hq
  generalize headT (ofTerm t) = h1 at HH1 hq
  go_enter Tryz.func61, Tryz.ntmps61
  go_upto_region 3 with fail
  have hW := below_two w (.cells #[.string ⟨#[]⟩, .slice (some ⟨b0, 0, none⟩) n0 c0] 84) (.cells #[.string ⟨#[]⟩, .slice (some ⟨b1, 0, none⟩) n1 c1] 84)
  have hx0 := Blk.alloc (Blk.new w 84 #[.string ⟨#[]⟩, .slice (some ⟨b0, 0, none⟩) n0 c0]) (.cells #[.string ⟨#[]⟩, .slice (some ⟨b1, 0, none⟩) n1 c1] 84)
  have hx1 := Blk.new (w.alloc (.cells #[.string ⟨#[]⟩, .slice (some ⟨b0, 0, none⟩) n0 c0] 84)) 84 #[.string ⟨#[]⟩, .slice (some ⟨b1, 0, none⟩) n1 c1]
  rw [show (w.alloc (.cells #[.string ⟨#[]⟩, .slice (some ⟨b0, 0, none⟩) n0 c0] 84)).heap.size = w.heap.size + 1 by simp] at hx1
  generalize (w.alloc (.cells #[.string ⟨#[]⟩, .slice (some ⟨b0, 0, none⟩) n0 c0] 84)).alloc (.cells #[.string ⟨#[]⟩, .slice (some ⟨b1, 0, none⟩) n1 c1] 84) = W at *
  obtain ⟨k0, k1, -, -⟩ := blk_cells hx0
  obtain ⟨k2, k3, -, -⟩ := blk_cells hx1
  have hkW := below_keeps hW
  have hS3 := eight_drew (w0 := w) (W := W) ⟨k0, k1, k2, k3, hkW _ _ P.out.1, hkW _ _ P.out.2.1, hkW _ _ P.out.2.2.1, hkW _ _ P.out.2.2.2, hW⟩
  clear hx0 hx1 hW hkW k0 k1 k2 k3
  refine wp_region_held (S := (fun W' => (W'.cell? ⟨w.heap.size, 0, none⟩ = some (.string ⟨#[]⟩) ∧ W'.cell? ⟨w.heap.size, 1, none⟩ = some (.slice (some ⟨b0, 0, none⟩) n0 c0) ∧ W'.cell? ⟨w.heap.size + 1, 0, none⟩ = some (.string ⟨#[]⟩) ∧ W'.cell? ⟨w.heap.size + 1, 1, none⟩ = some (.slice (some ⟨b1, 0, none⟩) n1 c1) ∧ W'.cell? ⟨b0, 2, none⟩ = some x0 ∧ W'.cell? ⟨b0, 3, none⟩ = some y0 ∧ W'.cell? ⟨b1, 2, none⟩ = some x1 ∧ W'.cell? ⟨b1, 3, none⟩ = some y1 ∧ Below w.heap.size w W'))) (by kernel_rfl) ?_
  change wpAnyH _ _ _ _ _ _ _ _ (World.drew _)
  have hHeld := hS3
  refine wpAnyH_take (i := 0) (v := ?_) rfl (by kernel_rfl) (by kernel_rfl) (by kernel_rfl) (fun _ _ _ h => h) (Or.inl ⟨by rfl, ?_⟩) (by assumption) ?_
  rotate_left
  · (intro w hSw; (try dsimp only at hSw); go_simp; try with_reducible rfl)
  try go_simp
  refine wpAnyH_take (i := 2) (v := ?_) rfl (by kernel_rfl) (by kernel_rfl) (by kernel_rfl) (fun _ _ _ h => h) (Or.inl ⟨by rfl, ?_⟩) (by assumption) ?_
  rotate_left
  · (intro w hSw; (try dsimp only at hSw); go_simp; try with_reducible rfl)
  try go_simp
  refine wpAnyH_ready (rs := [1]) (by kernel_rfl) (by simp) ?_
  refine AllReadyH.cons rfl (fun K hK => ?_) AllReadyH.nil
  go_simp
  go_wp2_with (go_at_call 90; (with_reducible refine (HH0.out _ (bel9 ‹_ ∧ _ ∧ _ ∧ _ ∧ _ ∧ _ ∧ _ ∧ _ ∧ Below _ _ _›)).mono ?_); rintro e wa ⟨rfl, hba⟩)
  refine hK.out _ _ ?_ (fun hHeld2 => ?_)
  · (first
      | (with_reducible assumption)
      | (with_reducible exact eight_below ‹_ ∧ _ ∧ _ ∧ _ ∧ _ ∧ _ ∧ _ ∧ _ ∧ Below _ _ _› hba))
  clear hK K hHeld
  have hHeld := hHeld2
  clear hHeld2
  refine wpAnyH_ready (rs := [3]) (by kernel_rfl) (by simp) ?_
  refine AllReadyH.cons rfl (fun K hK => ?_) AllReadyH.nil
  go_simp
  go_wp2_with (go_at_call 90; (with_reducible refine (HH1.out _ (bel9 ‹_ ∧ _ ∧ _ ∧ _ ∧ _ ∧ _ ∧ _ ∧ _ ∧ Below _ _ _›)).mono ?_); rintro e wa ⟨rfl, hba⟩)
  refine hK.out _ _ ?_ (fun hHeld2 => ?_)
  · (first
      | (with_reducible assumption)
      | (with_reducible exact eight_below ‹_ ∧ _ ∧ _ ∧ _ ∧ _ ∧ _ ∧ _ ∧ _ ∧ Below _ _ _› hba))
  clear hK K hHeld
  have hHeld := hHeld2
  clear hHeld2
  refine wpAnyH_take (i := 4) (v := ?_) rfl (by kernel_rfl) (by kernel_rfl) (by kernel_rfl) (fun _ _ _ h => h) (Or.inl ⟨by rfl, ?_⟩) (by assumption) ?_
  rotate_left
  · (intro w hSw; (try dsimp only at hSw); go_simp; try with_reducible rfl)
  try go_simp
  refine wpAnyH_take (i := 5) (v := ?_) rfl (by kernel_rfl) (by kernel_rfl) (by kernel_rfl) (fun _ _ _ h => h) (Or.inl ⟨by rfl, ?_⟩) (by assumption) ?_
  rotate_left
  · (intro w hSw; (try dsimp only at hSw); go_simp; try with_reducible rfl)
  try go_simp
  refine wpAnyH_take (i := 6) (v := undef) rfl (by kernel_rfl) (by kernel_rfl) (by kernel_rfl) (fun _ _ _ h => h) (Or.inr ⟨by rfl, rfl⟩) (by assumption) ?_
  try go_simp
  refine wpAnyH_take (i := 7) (v := undef) rfl (by kernel_rfl) (by kernel_rfl) (by kernel_rfl) (fun _ _ _ h => h) (Or.inr ⟨by rfl, rfl⟩) (by assumption) ?_
  try go_simp
  refine wpAnyH_take (i := 8) (v := undef) rfl (by kernel_rfl) (by kernel_rfl) (by kernel_rfl) (fun _ _ _ h => h) (Or.inr ⟨by rfl, rfl⟩) (by assumption) ?_
  try go_simp
  refine wpAnyH_take (i := 9) (v := undef) rfl (by kernel_rfl) (by kernel_rfl) (by kernel_rfl) (fun _ _ _ h => h) (Or.inr ⟨by rfl, rfl⟩) (by assumption) ?_
  try go_simp
  refine wpAnyH_take (i := 10) (v := undef) rfl (by kernel_rfl) (by kernel_rfl) (by kernel_rfl) (fun _ _ _ h => h) (Or.inr ⟨by rfl, rfl⟩) (by assumption) ?_
  try go_simp
  refine wpAnyH_take (i := 11) (v := undef) rfl (by kernel_rfl) (by kernel_rfl) (by kernel_rfl) (fun _ _ _ h => h) (Or.inr ⟨by rfl, rfl⟩) (by assumption) ?_
  try go_simp
  refine wpAnyH_take (i := 12) (v := undef) rfl (by kernel_rfl) (by kernel_rfl) (by kernel_rfl) (fun _ _ _ h => h) (Or.inr ⟨by rfl, rfl⟩) (by assumption) ?_
  try go_simp
  refine wpAnyH_take (i := 13) (v := undef) rfl (by kernel_rfl) (by kernel_rfl) (by kernel_rfl) (fun _ _ _ h => h) (Or.inr ⟨by rfl, rfl⟩) (by assumption) ?_
  try go_simp
  refine wpAnyH_take (i := 14) (v := undef) rfl (by kernel_rfl) (by kernel_rfl) (by kernel_rfl) (fun _ _ _ h => h) (Or.inr ⟨by rfl, rfl⟩) (by assumption) ?_
  try go_simp
  refine wpAnyH_take (i := 15) (v := undef) rfl (by kernel_rfl) (by kernel_rfl) (by kernel_rfl) (fun _ _ _ h => h) (Or.inr ⟨by rfl, rfl⟩) (by assumption) ?_
  try go_simp
  refine wpAnyH_take (i := 16) (v := ?_) rfl (by kernel_rfl) (by kernel_rfl) (by kernel_rfl) (fun _ _ _ h => h) (Or.inl ⟨by rfl, ?_⟩) (by assumption) ?_
  rotate_left
  · (intro w hSw; (try dsimp only at hSw); go_simp; try with_reducible rfl)
  try go_simp
  refine wpAnyH_done (by kernel_rfl) ?_ _
  have HBF := Lib.hid (bel9 hHeld)
  clear hHeld hS3
  go_wp2_with fail
  go_ret
  exact ⟨rfl, HBF.out⟩

set_option maxHeartbeats 3200000 in
set_option maxRecDepth 100000 in
theorem coh_first_no (s t : Term) (va vb : Value) (w : World) (hs : atomT s = none) (ht : atomT t = none) (hr0 : RepS w (ofTerm s) va) (hr1 : RepS w (ofTerm t) vb) (hq : (headT (ofTerm s) == headT (ofTerm t)) = true) (hC : ∀ (va vb : Value) (w : World), RepS w (ofTerm (firstOf s)) va → RepS w (ofTerm (firstOf t)) vb → Calls Tryz.prog 61 #[va, vb] w fun e w' => e = .returned (.bool false) ∧ Below w.heap.size w w') :
    Calls Tryz.prog 61 #[va, vb] w fun e w' => e = .returned (.bool false) ∧ Below w.heap.size w w' := by
  obtain ⟨b0, n0, c0, x0, y0, rfl, i01, i02, i03, p02, p03, hf0⟩ := list_shape s va w hs hr0
  obtain ⟨b1, n1, c1, x1, y1, rfl, i11, i12, i13, p12, p13, hf1⟩ := list_shape t vb w ht hr1
  have HH0 : Hid (∀ W, Below w.heap.size w W → Calls Tryz.prog 90 #[.agg #[.string ⟨#[]⟩, .slice (some ⟨b0, 0, none⟩) n0 c0]] W fun e w' => e = .returned (.string ⟨(headT (ofTerm s)).toArray⟩) ∧ Below W.heap.size W w') := fun W hW => l1Head_any _ _ W (hr0.keep (below_keeps hW))
  have HH1 : Hid (∀ W, Below w.heap.size w W → Calls Tryz.prog 90 #[.agg #[.string ⟨#[]⟩, .slice (some ⟨b1, 0, none⟩) n1 c1]] W fun e w' => e = .returned (.string ⟨(headT (ofTerm t)).toArray⟩) ∧ Below W.heap.size W w') := fun W hW => l1Head_any _ _ W (hr1.keep (below_keeps hW))
  have HC : Hid (∀ W, Below w.heap.size w W → Calls Tryz.prog 61 #[.agg #[x0, y0], .agg #[x1, y1]] W fun e w' => e = .returned (.bool false) ∧ Below W.heap.size W w') := fun W hW => hC (.agg #[x0, y0]) (.agg #[x1, y1]) W (hf0.keep (below_keeps hW)) (hf1.keep (below_keeps hW))
  have P := Lib.hid (And.intro p02 (And.intro p03 (And.intro p12 p13)))
  have HR := Lib.hid (And.intro hr0 hr1)
  unfold maxLen at i03 i13
  have i04 : 1 < n0 := by omega
  have i14 : 1 < n1 := by omega
  have i05 : (1 : Int) < (n0 : Int) := by omega
  have i15 : (1 : Int) < (n1 : Int) := by omega
  clear hs ht hr0 hr1 p02 p03 p12 p13 hf0 hf1 hC
  generalize headT (ofTerm s) = h0 at HH0 hq
  generalize headT (ofTerm t) = h1 at HH1 hq
  go_enter Tryz.func61, Tryz.ntmps61
  go_upto_region 3 with fail
  have hW := below_two w (.cells #[.string ⟨#[]⟩, .slice (some ⟨b0, 0, none⟩) n0 c0] 84) (.cells #[.string ⟨#[]⟩, .slice (some ⟨b1, 0, none⟩) n1 c1] 84)
  have hx0 := Blk.alloc (Blk.new w 84 #[.string ⟨#[]⟩, .slice (some ⟨b0, 0, none⟩) n0 c0]) (.cells #[.string ⟨#[]⟩, .slice (some ⟨b1, 0, none⟩) n1 c1] 84)
  have hx1 := Blk.new (w.alloc (.cells #[.string ⟨#[]⟩, .slice (some ⟨b0, 0, none⟩) n0 c0] 84)) 84 #[.string ⟨#[]⟩, .slice (some ⟨b1, 0, none⟩) n1 c1]
  rw [show (w.alloc (.cells #[.string ⟨#[]⟩, .slice (some ⟨b0, 0, none⟩) n0 c0] 84)).heap.size = w.heap.size + 1 by simp] at hx1
  generalize (w.alloc (.cells #[.string ⟨#[]⟩, .slice (some ⟨b0, 0, none⟩) n0 c0] 84)).alloc (.cells #[.string ⟨#[]⟩, .slice (some ⟨b1, 0, none⟩) n1 c1] 84) = W at *
  obtain ⟨k0, k1, -, -⟩ := blk_cells hx0
  obtain ⟨k2, k3, -, -⟩ := blk_cells hx1
  have hkW := below_keeps hW
  have hS3 := eight_drew (w0 := w) (W := W) ⟨k0, k1, k2, k3, hkW _ _ P.out.1, hkW _ _ P.out.2.1, hkW _ _ P.out.2.2.1, hkW _ _ P.out.2.2.2, hW⟩
  clear hx0 hx1 hW hkW k0 k1 k2 k3
  go_region_held3 (fun W' => (W'.cell? ⟨w.heap.size, 0, none⟩ = some (.string ⟨#[]⟩) ∧ W'.cell? ⟨w.heap.size, 1, none⟩ = some (.slice (some ⟨b0, 0, none⟩) n0 c0) ∧ W'.cell? ⟨w.heap.size + 1, 0, none⟩ = some (.string ⟨#[]⟩) ∧ W'.cell? ⟨w.heap.size + 1, 1, none⟩ = some (.slice (some ⟨b1, 0, none⟩) n1 c1) ∧ W'.cell? ⟨b0, 2, none⟩ = some x0 ∧ W'.cell? ⟨b0, 3, none⟩ = some y0 ∧ W'.cell? ⟨b1, 2, none⟩ = some x1 ∧ W'.cell? ⟨b1, 3, none⟩ = some y1 ∧ Below w.heap.size w W'))
    (first
      | (with_reducible assumption)
      | (with_reducible exact eight_below ‹_ ∧ _ ∧ _ ∧ _ ∧ _ ∧ _ ∧ _ ∧ _ ∧ Below _ _ _› hba))
    (first
      | (go_at_call 90; (with_reducible refine (HH0.out _ (bel9 ‹_ ∧ _ ∧ _ ∧ _ ∧ _ ∧ _ ∧ _ ∧ _ ∧ Below _ _ _›)).mono ?_); rintro e wa ⟨rfl, hba⟩)
      | (go_at_call 90; (with_reducible refine (HH1.out _ (bel9 ‹_ ∧ _ ∧ _ ∧ _ ∧ _ ∧ _ ∧ _ ∧ _ ∧ Below _ _ _›)).mono ?_); rintro e wa ⟨rfl, hba⟩)
      | (go_at_call 61; (with_reducible refine (HC.out _ (bel9 ‹_ ∧ _ ∧ _ ∧ _ ∧ _ ∧ _ ∧ _ ∧ _ ∧ Below _ _ _›)).mono ?_); rintro e wa ⟨rfl, hba⟩))
  all_goals
    have HBF := Lib.hid (bel9 ‹_ ∧ _ ∧ _ ∧ _ ∧ _ ∧ _ ∧ _ ∧ _ ∧ Below _ _ _›)
    clear hS3
    go_wp2_with fail
    go_ret
    exact ⟨rfl, HBF.out⟩

set_option maxHeartbeats 3200000 in
set_option maxRecDepth 100000 in
theorem coh_lams (s t : Term) (va vb : Value) (w : World) (hr0 : RepS w (ofTerm (.lam s)) va) (hr1 : RepS w (ofTerm (.lam t)) vb) (hC : ∀ (va vb : Value) (w : World), RepS w (ofTerm (firstOf (.lam s))) va → RepS w (ofTerm (firstOf (.lam t))) vb → Calls Tryz.prog 61 #[va, vb] w fun e w' => e = .returned (.bool true) ∧ Below w.heap.size w w') :
    Calls Tryz.prog 61 #[va, vb] w fun e w' => e = .returned (.bool true) ∧ Below w.heap.size w w' := by
  have hs : atomT (.lam s) = none := rfl
  have ht : atomT (.lam t) = none := rfl
  obtain ⟨b0, n0, c0, x0, y0, rfl, i01, i02, i03, p02, p03, hf0⟩ := list_shape (.lam s) va w hs hr0
  obtain ⟨b1, n1, c1, x1, y1, rfl, i11, i12, i13, p12, p13, hf1⟩ := list_shape (.lam t) vb w ht hr1
  have HH0 : Hid (∀ W, Below w.heap.size w W → Calls Tryz.prog 90 #[.agg #[.string ⟨#[]⟩, .slice (some ⟨b0, 0, none⟩) n0 c0]] W fun e w' => e = .returned (.string ⟨#[108, 97, 109]⟩) ∧ Below W.heap.size W w') := fun W hW => l1Head_any _ _ W (hr0.keep (below_keeps hW))
  have HH1 : Hid (∀ W, Below w.heap.size w W → Calls Tryz.prog 90 #[.agg #[.string ⟨#[]⟩, .slice (some ⟨b1, 0, none⟩) n1 c1]] W fun e w' => e = .returned (.string ⟨#[108, 97, 109]⟩) ∧ Below W.heap.size W w') := fun W hW => l1Head_any _ _ W (hr1.keep (below_keeps hW))
  have HC : Hid (∀ W, Below w.heap.size w W → Calls Tryz.prog 61 #[.agg #[x0, y0], .agg #[x1, y1]] W fun e w' => e = .returned (.bool true) ∧ Below W.heap.size W w') := fun W hW => hC (.agg #[x0, y0]) (.agg #[x1, y1]) W (hf0.keep (below_keeps hW)) (hf1.keep (below_keeps hW))
  have P := Lib.hid (And.intro p02 (And.intro p03 (And.intro p12 p13)))
  have HR := Lib.hid (And.intro hr0 hr1)
  unfold maxLen at i03 i13
  have i04 : 1 < n0 := by omega
  have i14 : 1 < n1 := by omega
  have i05 : (1 : Int) < (n0 : Int) := by omega
  have i15 : (1 : Int) < (n1 : Int) := by omega
  clear hs ht hr0 hr1 p02 p03 p12 p13 hf0 hf1 hC
  go_enter Tryz.func61, Tryz.ntmps61
  go_upto_region 3 with fail
  have hW := below_two w (.cells #[.string ⟨#[]⟩, .slice (some ⟨b0, 0, none⟩) n0 c0] 84) (.cells #[.string ⟨#[]⟩, .slice (some ⟨b1, 0, none⟩) n1 c1] 84)
  have hx0 := Blk.alloc (Blk.new w 84 #[.string ⟨#[]⟩, .slice (some ⟨b0, 0, none⟩) n0 c0]) (.cells #[.string ⟨#[]⟩, .slice (some ⟨b1, 0, none⟩) n1 c1] 84)
  have hx1 := Blk.new (w.alloc (.cells #[.string ⟨#[]⟩, .slice (some ⟨b0, 0, none⟩) n0 c0] 84)) 84 #[.string ⟨#[]⟩, .slice (some ⟨b1, 0, none⟩) n1 c1]
  rw [show (w.alloc (.cells #[.string ⟨#[]⟩, .slice (some ⟨b0, 0, none⟩) n0 c0] 84)).heap.size = w.heap.size + 1 by simp] at hx1
  generalize (w.alloc (.cells #[.string ⟨#[]⟩, .slice (some ⟨b0, 0, none⟩) n0 c0] 84)).alloc (.cells #[.string ⟨#[]⟩, .slice (some ⟨b1, 0, none⟩) n1 c1] 84) = W at *
  obtain ⟨k0, k1, -, -⟩ := blk_cells hx0
  obtain ⟨k2, k3, -, -⟩ := blk_cells hx1
  have hkW := below_keeps hW
  have hS3 := eight_drew (w0 := w) (W := W) ⟨k0, k1, k2, k3, hkW _ _ P.out.1, hkW _ _ P.out.2.1, hkW _ _ P.out.2.2.1, hkW _ _ P.out.2.2.2, hW⟩
  clear hx0 hx1 hW hkW k0 k1 k2 k3
  go_region_held3 (fun W' => (W'.cell? ⟨w.heap.size, 0, none⟩ = some (.string ⟨#[]⟩) ∧ W'.cell? ⟨w.heap.size, 1, none⟩ = some (.slice (some ⟨b0, 0, none⟩) n0 c0) ∧ W'.cell? ⟨w.heap.size + 1, 0, none⟩ = some (.string ⟨#[]⟩) ∧ W'.cell? ⟨w.heap.size + 1, 1, none⟩ = some (.slice (some ⟨b1, 0, none⟩) n1 c1) ∧ W'.cell? ⟨b0, 2, none⟩ = some x0 ∧ W'.cell? ⟨b0, 3, none⟩ = some y0 ∧ W'.cell? ⟨b1, 2, none⟩ = some x1 ∧ W'.cell? ⟨b1, 3, none⟩ = some y1 ∧ Below w.heap.size w W'))
    (first
      | (with_reducible assumption)
      | (with_reducible exact eight_below ‹_ ∧ _ ∧ _ ∧ _ ∧ _ ∧ _ ∧ _ ∧ _ ∧ Below _ _ _› hba))
    (first
      | (go_at_call 90; (with_reducible refine (HH0.out _ (bel9 ‹_ ∧ _ ∧ _ ∧ _ ∧ _ ∧ _ ∧ _ ∧ _ ∧ Below _ _ _›)).mono ?_); rintro e wa ⟨rfl, hba⟩)
      | (go_at_call 90; (with_reducible refine (HH1.out _ (bel9 ‹_ ∧ _ ∧ _ ∧ _ ∧ _ ∧ _ ∧ _ ∧ _ ∧ Below _ _ _›)).mono ?_); rintro e wa ⟨rfl, hba⟩)
      | (go_at_call 61; (with_reducible refine (HC.out _ (bel9 ‹_ ∧ _ ∧ _ ∧ _ ∧ _ ∧ _ ∧ _ ∧ _ ∧ Below _ _ _›)).mono ?_); rintro e wa ⟨rfl, hba⟩))
  all_goals
    have hS4 := ‹_ ∧ _ ∧ _ ∧ _ ∧ _ ∧ _ ∧ _ ∧ _ ∧ Below _ _ _›
    obtain ⟨k0, k1, k2, k3, k4, k5, k6, k7, hB4⟩ := hS4
    have HH0' := Lib.hid (HH0.out _ hB4)
    have HB4 := Lib.hid hB4
    clear hS3 hB4 k2 k3 k4 k5 k6 k7
    go_wp2_with fail
    refine HH0'.out.mono ?_
    rintro e w5 ⟨rfl, hb5⟩
    have HB5 := Lib.hid (HB4.out.trans (hb5.mono HB4.out.size))
    clear hb5
    go_wp2_with fail
    go_ret
    exact ⟨rfl, HB5.out⟩

end Go.Proofs.YtopmkddmllmecaaGreatDoor
