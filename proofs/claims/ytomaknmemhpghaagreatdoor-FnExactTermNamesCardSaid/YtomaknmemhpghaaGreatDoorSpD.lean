/- The model's l1Swap at the atoms: open. -/
import Derived.Test.YtomaknmemhpghaaGreatDoorSpC
namespace Go.Proofs.YtomaknmemhpghaaGreatDoor
open Go.RowKit Rt

set_option maxHeartbeats 6400000 in
set_option maxRecDepth 100000 in
theorem swap_open_atom (b : B) (hb : b ≠ []) (F : Nat → Prop) (s : B) (k : Nat) (w : World) (hk : k < 100) :
    Calls Tryz.prog 68 #[.agg #[st s, .slice none 0 0], .string ⟨#[]⟩, .int .i64 0, .string ⟨b.toArray⟩, .int .i64 k] w (TreePost F w (.atom (if s = dec k then b else s))) := by
  generalize hres : (if s = dec k then b else s) = res
  obtain ⟨b1, b2, b3, b4⟩ := empty_facts ⟨b.toArray⟩ hb
  have HD := Lib.hid (l6Dec_small k hk)
  have hrep : ∀ w, RepS w (.atom s) (.agg #[st s, .slice none 0 0]) := fun w => by rw [RepS]
  have hsa : ((⟨s.toArray⟩ : ByteArray).toList == (⟨(dec k).toArray⟩ : ByteArray).toList) = decide (s = dec k) := by
    rw [ByteArray.toList_eq, ByteArray.toList_eq]
    rw [Bool.eq_iff_iff]; simp
  rw [st_eq] at hrep ⊢
  have HS : Hid (∀ x : B, x = s → st x = .string ⟨s.toArray⟩) := fun x h => by rw [h]; rfl
  have HB : Hid (∀ x : B, x = b → st x = .string ⟨b.toArray⟩) := fun x h => by rw [h]; rfl
  generalize hdk : dec k = dk at *
  generalize (⟨dk.toArray⟩ : ByteArray) = sa at *
  generalize (⟨b.toArray⟩ : ByteArray) = sb at *
  have hbox := Blk.new w 55 #[.string ⟨s.toArray⟩, .slice none 0 0]
  generalize (⟨s.toArray⟩ : ByteArray) = ss at *
  have hbox2 := hbox.alloc (.cells #[.string ⟨#[]⟩, .slice none 0 0] 55)
  have hret : Blk ((w.alloc (.cells #[.string ss, .slice none 0 0] 55)).alloc (.cells #[.string ⟨#[]⟩, .slice none 0 0] 55)) (w.heap.size + 1) 55 #[.string ⟨#[]⟩, .slice none 0 0] := by
    have := Blk.new (w.alloc (.cells #[.string ss, .slice none 0 0] 55)) 55 #[.string ⟨#[]⟩, .slice none 0 0]
    simpa using this
  have hW := below_two w (.cells #[.string ss, .slice none 0 0] 55) (.cells #[.string ⟨#[]⟩, .slice none 0 0] 55)
  clear hbox hdk
  have e1 : IntKind.i64.wrap (k : Int) = (k : Int) := IntWalk.i64_in _ (by omega)
  have HFIN : Hid (∀ v W, (s = dk → v = .agg #[.string sb, .slice none 0 0]) → (s ≠ dk → v = .agg #[.string ss, .slice none 0 0]) → RepSF (fun q => F q ∨ w.heap.size ≤ q) W (.atom res) v) := by
    intro v W h1 h2
    rw [RepSF]
    by_cases hq : s = dk
    · rw [HB.out res (by rw [← hres, if_pos hq])]; exact h1 hq
    · rw [HS.out res (by rw [← hres, if_neg hq])]; exact h2 hq
  clear hres
  by_cases hq : s = dk
  · have hsq : (ss.toList == sa.toList) = true := by rw [hsa]; simp [hq]
    have HR : Hid (∀ W, RepSF (fun q => F q ∨ w.heap.size ≤ q) W (.atom res) (.agg #[.string sb, .slice none 0 0])) := fun W => HFIN.out _ W (fun _ => rfl) (fun h => absurd hq h)
    clear hsa hq HFIN
    go_enter Tryz.func68, Tryz.ntmps68
    go_wp2_with fail
    generalize (w.alloc (.cells #[.string ss, .slice none 0 0] 55)).alloc (.cells #[.string ⟨#[]⟩, .slice none 0 0] 55) = W at *
    refine (l1Head_any (.atom s) _ _ (hrep _)).mono ?_
    rintro e w2 ⟨rfl, hb2⟩
    rw [st_eq, show headT (.atom s) = [] from rfl]
    have hret2 := hret.below hb2 hret.lt
    have hbox3 := hbox2.below hb2 hbox2.lt
    obtain ⟨r0, r1, z0, z1⟩ := blk_cells hret2
    obtain ⟨p0, p1, _, _⟩ := blk_cells hbox3
    have hsz : w.heap.size + 2 ≤ w2.heap.size := hret2.lt
    have hbb := Lib.hid (hW.trans (hb2.mono hW.size))
    have HRET := Lib.hid hret2
    have HBOX := Lib.hid hbox3
    clear hret hret2 hbox2 hbox3 hW hb2 hrep
    go_wp2_with fail
    refine wp_region_any (by kernel_rfl) ?_
    change wpAny _ _ _ _ _ _ _ (World.drew _)
    refine wpAny_take (i := 0) (v := ?_) rfl (by kernel_rfl) (by kernel_rfl) (by kernel_rfl) (fun _ _ _ h => h) (Or.inl ⟨by rfl, ?_⟩) ?_
    rotate_left
    · (intro W; go_simp; try with_reducible rfl)
    try go_simp
    refine wpAny_take (i := 1) (v := ?_) rfl (by kernel_rfl) (by kernel_rfl) (by kernel_rfl) (fun _ _ _ h => h) (Or.inl ⟨by rfl, ?_⟩) ?_
    rotate_left
    · (intro W; go_simp; try with_reducible rfl)
    try go_simp
    refine wpAny_take (i := 2) (v := ?_) rfl (by kernel_rfl) (by kernel_rfl) (by kernel_rfl) (fun _ _ _ h => h) (Or.inl ⟨by rfl, ?_⟩) ?_
    rotate_left
    · (intro W; go_simp; try with_reducible rfl)
    try go_simp
    refine wpAny_take (i := 3) (v := undef) rfl (by kernel_rfl) (by kernel_rfl) (by kernel_rfl) (fun _ _ _ h => h) (Or.inr ⟨by rfl, rfl⟩) ?_
    try go_simp
    refine wpAny_take (i := 4) (v := undef) rfl (by kernel_rfl) (by kernel_rfl) (by kernel_rfl) (fun _ _ _ h => h) (Or.inr ⟨by rfl, rfl⟩) ?_
    try go_simp
    refine wpAny_take (i := 5) (v := undef) rfl (by kernel_rfl) (by kernel_rfl) (by kernel_rfl) (fun _ _ _ h => h) (Or.inr ⟨by rfl, rfl⟩) ?_
    try go_simp
    refine wpAny_take (i := 6) (v := undef) rfl (by kernel_rfl) (by kernel_rfl) (by kernel_rfl) (fun _ _ _ h => h) (Or.inr ⟨by rfl, rfl⟩) ?_
    try go_simp
    refine wpAny_take (i := 7) (v := ?_) rfl (by kernel_rfl) (by kernel_rfl) (by kernel_rfl) (fun _ _ _ h => h) (Or.inl ⟨by rfl, ?_⟩) ?_
    rotate_left
    · (intro W; go_simp; try with_reducible rfl)
    try go_simp
    refine wpAny_take (i := 8) (v := ?_) rfl (by kernel_rfl) (by kernel_rfl) (by kernel_rfl) (fun _ _ _ h => h) (Or.inl ⟨by rfl, ?_⟩) ?_
    rotate_left
    · (intro W; go_simp; try with_reducible rfl)
    try go_simp
    refine wpAny_take (i := 9) (v := ?_) rfl (by kernel_rfl) (by kernel_rfl) (by kernel_rfl) (fun _ _ _ h => h) (Or.inl ⟨by rfl, ?_⟩) ?_
    rotate_left
    · (intro W; go_simp; try with_reducible rfl)
    try go_simp
    refine wpAny_take (i := 10) (v := ?_) rfl (by kernel_rfl) (by kernel_rfl) (by kernel_rfl) (fun _ _ _ h => h) (Or.inl ⟨by rfl, ?_⟩) ?_
    rotate_left
    · (intro W; go_simp; try with_reducible rfl)
    try go_simp
    refine wpAny_take (i := 11) (v := ?_) rfl (by kernel_rfl) (by kernel_rfl) (by kernel_rfl) (fun _ _ _ h => h) (Or.inl ⟨by rfl, ?_⟩) ?_
    rotate_left
    · (intro W; go_simp; try with_reducible rfl)
    try go_simp
    refine wpAny_take (i := 12) (v := ?_) rfl (by kernel_rfl) (by kernel_rfl) (by kernel_rfl) (fun _ _ _ h => h) (Or.inl ⟨by rfl, ?_⟩) ?_
    rotate_left
    · (intro W; go_simp; try with_reducible rfl)
    try go_simp
    refine wpAny_take (i := 14) (v := ?_) rfl (by kernel_rfl) (by kernel_rfl) (by kernel_rfl) (fun _ _ _ h => h) (Or.inl ⟨by rfl, ?_⟩) ?_
    rotate_left
    · (intro W; go_simp; try with_reducible rfl)
    try go_simp
    refine wpAny_take (i := 15) (v := ?_) rfl (by kernel_rfl) (by kernel_rfl) (by kernel_rfl) (fun _ _ _ h => h) (Or.inl ⟨by rfl, ?_⟩) ?_
    rotate_left
    · (intro W; go_simp; try with_reducible rfl)
    try go_simp
    refine wpAny_take (i := 16) (v := ?_) rfl (by kernel_rfl) (by kernel_rfl) (by kernel_rfl) (fun _ _ _ h => h) (Or.inl ⟨by rfl, ?_⟩) ?_
    rotate_left
    · (intro W; go_simp; try with_reducible rfl)
    try go_simp
    refine wpAny_ready (rs := [13, 17]) (by kernel_rfl) (by simp) ?_
    refine AllReady.cons rfl (fun K hK => ?_) ?_
    · go_simp
      refine hK _ _ ?_
      clear hK K
      try go_simp
      refine wpAny_ready (rs := [17]) (by kernel_rfl) (by simp) ?_
      refine AllReady.cons rfl (fun K hK => ?_) AllReady.nil
      go_simp
      go_wp2_with (go_at_call 88; (with_reducible refine (HD.out _).mono ?_); rintro e w3 ⟨rfl, hb3⟩; have hret3 := (blk_drew HRET.out).below hb3 HRET.out.lt; have hbox4 := (blk_drew HBOX.out).below hb3 HBOX.out.lt; obtain ⟨v0, v1, y0, y1⟩ := blk_cells hret3; obtain ⟨x0, x1, _, _⟩ := blk_cells hbox4; have HB3 := Lib.hid hb3; have hsz3 : w.heap.size + 2 ≤ w3.heap.size := Nat.le_trans hsz hb3.size; clear hret3 hb3 hbox4)
      try (refine hK _ _ ?_; clear hK K)
      try go_simp
      refine wpAny_take (i := 18) (v := ?_) rfl (by kernel_rfl) (by kernel_rfl) (by kernel_rfl) (fun _ _ _ h => h) (Or.inl ⟨by rfl, ?_⟩) ?_
      rotate_left
      · (intro W; go_simp; try with_reducible rfl)
      try go_simp
      refine wpAny_take (i := 19) (v := ?_) rfl (by kernel_rfl) (by kernel_rfl) (by kernel_rfl) (fun _ _ _ h => h) (Or.inl ⟨by rfl, ?_⟩) ?_
      rotate_left
      · (intro W; go_simp; try with_reducible rfl)
      try go_simp
      refine wpAny_take (i := 20) (v := ?_) rfl (by kernel_rfl) (by kernel_rfl) (by kernel_rfl) (fun _ _ _ h => h) (Or.inl ⟨by rfl, ?_⟩) ?_
      rotate_left
      · (intro W; go_simp; try with_reducible rfl)
      try go_simp
      refine wpAny_done (by kernel_rfl) ?_ _
      go_wp2_with fail
      refine bodyPost_ret (v := .agg #[.string sb, .slice none 0 0]) ?_ rfl ?_
      · simp [results, Tryz.results68, go_sem, v0, v1]
      · refine TreePost.mk rfl (HR.out _) ?_
        have hd : Below w.heap.size w w3 := hbb.out.drew.trans (HB3.out.mono (by show w.heap.size ≤ w2.heap.size; omega))
        exact (hd.setCell (by simp) _).setCell (by simp) _
    · refine AllReady.cons rfl (fun K hK => ?_) AllReady.nil
      go_simp
      go_wp2_with (go_at_call 88; (with_reducible refine (HD.out _).mono ?_); rintro e w3 ⟨rfl, hb3⟩; have hret3 := (blk_drew HRET.out).below hb3 HRET.out.lt; have hbox4 := (blk_drew HBOX.out).below hb3 HBOX.out.lt; obtain ⟨v0, v1, y0, y1⟩ := blk_cells hret3; obtain ⟨x0, x1, _, _⟩ := blk_cells hbox4; have HB3 := Lib.hid hb3; have hsz3 : w.heap.size + 2 ≤ w3.heap.size := Nat.le_trans hsz hb3.size; clear hret3 hb3 hbox4)
      try (refine hK _ _ ?_; clear hK K)
      try go_simp
      refine wpAny_ready (rs := [13]) (by kernel_rfl) (by simp) ?_
      refine AllReady.cons rfl (fun K hK => ?_) AllReady.nil
      go_simp
      refine hK _ _ ?_
      clear hK K
      try go_simp
      refine wpAny_take (i := 18) (v := ?_) rfl (by kernel_rfl) (by kernel_rfl) (by kernel_rfl) (fun _ _ _ h => h) (Or.inl ⟨by rfl, ?_⟩) ?_
      rotate_left
      · (intro W; go_simp; try with_reducible rfl)
      try go_simp
      refine wpAny_take (i := 19) (v := ?_) rfl (by kernel_rfl) (by kernel_rfl) (by kernel_rfl) (fun _ _ _ h => h) (Or.inl ⟨by rfl, ?_⟩) ?_
      rotate_left
      · (intro W; go_simp; try with_reducible rfl)
      try go_simp
      refine wpAny_take (i := 20) (v := ?_) rfl (by kernel_rfl) (by kernel_rfl) (by kernel_rfl) (fun _ _ _ h => h) (Or.inl ⟨by rfl, ?_⟩) ?_
      rotate_left
      · (intro W; go_simp; try with_reducible rfl)
      try go_simp
      refine wpAny_done (by kernel_rfl) ?_ _
      go_wp2_with fail
      refine bodyPost_ret (v := .agg #[.string sb, .slice none 0 0]) ?_ rfl ?_
      · simp [results, Tryz.results68, go_sem, v0, v1]
      · refine TreePost.mk rfl (HR.out _) ?_
        have hd : Below w.heap.size w w3 := hbb.out.drew.trans (HB3.out.mono (by show w.heap.size ≤ w2.heap.size; omega))
        exact (hd.setCell (by simp) _).setCell (by simp) _
  · have hsq : (ss.toList == sa.toList) = false := by rw [hsa]; simp [hq]
    have HR : Hid (∀ W, RepSF (fun q => F q ∨ w.heap.size ≤ q) W (.atom res) (.agg #[.string ss, .slice none 0 0])) := fun W => HFIN.out _ W (fun h => absurd h hq) (fun _ => rfl)
    clear hsa hq HFIN
    go_enter Tryz.func68, Tryz.ntmps68
    go_wp2_with fail
    generalize (w.alloc (.cells #[.string ss, .slice none 0 0] 55)).alloc (.cells #[.string ⟨#[]⟩, .slice none 0 0] 55) = W at *
    refine (l1Head_any (.atom s) _ _ (hrep _)).mono ?_
    rintro e w2 ⟨rfl, hb2⟩
    rw [st_eq, show headT (.atom s) = [] from rfl]
    have hret2 := hret.below hb2 hret.lt
    have hbox3 := hbox2.below hb2 hbox2.lt
    obtain ⟨r0, r1, z0, z1⟩ := blk_cells hret2
    obtain ⟨p0, p1, _, _⟩ := blk_cells hbox3
    have hsz : w.heap.size + 2 ≤ w2.heap.size := hret2.lt
    have hbb := Lib.hid (hW.trans (hb2.mono hW.size))
    have HRET := Lib.hid hret2
    have HBOX := Lib.hid hbox3
    clear hret hret2 hbox2 hbox3 hW hb2 hrep
    go_wp2_with fail
    refine wp_region_any (by kernel_rfl) ?_
    change wpAny _ _ _ _ _ _ _ (World.drew _)
    refine wpAny_take (i := 0) (v := ?_) rfl (by kernel_rfl) (by kernel_rfl) (by kernel_rfl) (fun _ _ _ h => h) (Or.inl ⟨by rfl, ?_⟩) ?_
    rotate_left
    · (intro W; go_simp; try with_reducible rfl)
    try go_simp
    refine wpAny_take (i := 1) (v := ?_) rfl (by kernel_rfl) (by kernel_rfl) (by kernel_rfl) (fun _ _ _ h => h) (Or.inl ⟨by rfl, ?_⟩) ?_
    rotate_left
    · (intro W; go_simp; try with_reducible rfl)
    try go_simp
    refine wpAny_take (i := 2) (v := ?_) rfl (by kernel_rfl) (by kernel_rfl) (by kernel_rfl) (fun _ _ _ h => h) (Or.inl ⟨by rfl, ?_⟩) ?_
    rotate_left
    · (intro W; go_simp; try with_reducible rfl)
    try go_simp
    refine wpAny_take (i := 3) (v := undef) rfl (by kernel_rfl) (by kernel_rfl) (by kernel_rfl) (fun _ _ _ h => h) (Or.inr ⟨by rfl, rfl⟩) ?_
    try go_simp
    refine wpAny_take (i := 4) (v := undef) rfl (by kernel_rfl) (by kernel_rfl) (by kernel_rfl) (fun _ _ _ h => h) (Or.inr ⟨by rfl, rfl⟩) ?_
    try go_simp
    refine wpAny_take (i := 5) (v := undef) rfl (by kernel_rfl) (by kernel_rfl) (by kernel_rfl) (fun _ _ _ h => h) (Or.inr ⟨by rfl, rfl⟩) ?_
    try go_simp
    refine wpAny_take (i := 6) (v := undef) rfl (by kernel_rfl) (by kernel_rfl) (by kernel_rfl) (fun _ _ _ h => h) (Or.inr ⟨by rfl, rfl⟩) ?_
    try go_simp
    refine wpAny_take (i := 7) (v := ?_) rfl (by kernel_rfl) (by kernel_rfl) (by kernel_rfl) (fun _ _ _ h => h) (Or.inl ⟨by rfl, ?_⟩) ?_
    rotate_left
    · (intro W; go_simp; try with_reducible rfl)
    try go_simp
    refine wpAny_take (i := 8) (v := ?_) rfl (by kernel_rfl) (by kernel_rfl) (by kernel_rfl) (fun _ _ _ h => h) (Or.inl ⟨by rfl, ?_⟩) ?_
    rotate_left
    · (intro W; go_simp; try with_reducible rfl)
    try go_simp
    refine wpAny_take (i := 9) (v := ?_) rfl (by kernel_rfl) (by kernel_rfl) (by kernel_rfl) (fun _ _ _ h => h) (Or.inl ⟨by rfl, ?_⟩) ?_
    rotate_left
    · (intro W; go_simp; try with_reducible rfl)
    try go_simp
    refine wpAny_take (i := 10) (v := ?_) rfl (by kernel_rfl) (by kernel_rfl) (by kernel_rfl) (fun _ _ _ h => h) (Or.inl ⟨by rfl, ?_⟩) ?_
    rotate_left
    · (intro W; go_simp; try with_reducible rfl)
    try go_simp
    refine wpAny_take (i := 11) (v := ?_) rfl (by kernel_rfl) (by kernel_rfl) (by kernel_rfl) (fun _ _ _ h => h) (Or.inl ⟨by rfl, ?_⟩) ?_
    rotate_left
    · (intro W; go_simp; try with_reducible rfl)
    try go_simp
    refine wpAny_take (i := 12) (v := ?_) rfl (by kernel_rfl) (by kernel_rfl) (by kernel_rfl) (fun _ _ _ h => h) (Or.inl ⟨by rfl, ?_⟩) ?_
    rotate_left
    · (intro W; go_simp; try with_reducible rfl)
    try go_simp
    refine wpAny_take (i := 14) (v := ?_) rfl (by kernel_rfl) (by kernel_rfl) (by kernel_rfl) (fun _ _ _ h => h) (Or.inl ⟨by rfl, ?_⟩) ?_
    rotate_left
    · (intro W; go_simp; try with_reducible rfl)
    try go_simp
    refine wpAny_take (i := 15) (v := ?_) rfl (by kernel_rfl) (by kernel_rfl) (by kernel_rfl) (fun _ _ _ h => h) (Or.inl ⟨by rfl, ?_⟩) ?_
    rotate_left
    · (intro W; go_simp; try with_reducible rfl)
    try go_simp
    refine wpAny_take (i := 16) (v := ?_) rfl (by kernel_rfl) (by kernel_rfl) (by kernel_rfl) (fun _ _ _ h => h) (Or.inl ⟨by rfl, ?_⟩) ?_
    rotate_left
    · (intro W; go_simp; try with_reducible rfl)
    try go_simp
    refine wpAny_ready (rs := [13, 17]) (by kernel_rfl) (by simp) ?_
    refine AllReady.cons rfl (fun K hK => ?_) ?_
    · go_simp
      refine hK _ _ ?_
      clear hK K
      try go_simp
      refine wpAny_ready (rs := [17]) (by kernel_rfl) (by simp) ?_
      refine AllReady.cons rfl (fun K hK => ?_) AllReady.nil
      go_simp
      go_wp2_with (go_at_call 88; (with_reducible refine (HD.out _).mono ?_); rintro e w3 ⟨rfl, hb3⟩; have hret3 := (blk_drew HRET.out).below hb3 HRET.out.lt; have hbox4 := (blk_drew HBOX.out).below hb3 HBOX.out.lt; obtain ⟨v0, v1, y0, y1⟩ := blk_cells hret3; obtain ⟨x0, x1, _, _⟩ := blk_cells hbox4; have HB3 := Lib.hid hb3; have hsz3 : w.heap.size + 2 ≤ w3.heap.size := Nat.le_trans hsz hb3.size; clear hret3 hb3 hbox4)
      try (refine hK _ _ ?_; clear hK K)
      try go_simp
      refine wpAny_take (i := 18) (v := ?_) rfl (by kernel_rfl) (by kernel_rfl) (by kernel_rfl) (fun _ _ _ h => h) (Or.inl ⟨by rfl, ?_⟩) ?_
      rotate_left
      · (intro W; go_simp; try with_reducible rfl)
      try go_simp
      refine wpAny_take (i := 19) (v := ?_) rfl (by kernel_rfl) (by kernel_rfl) (by kernel_rfl) (fun _ _ _ h => h) (Or.inl ⟨by rfl, ?_⟩) ?_
      rotate_left
      · (intro W; go_simp; try with_reducible rfl)
      try go_simp
      refine wpAny_take (i := 20) (v := ?_) rfl (by kernel_rfl) (by kernel_rfl) (by kernel_rfl) (fun _ _ _ h => h) (Or.inl ⟨by rfl, ?_⟩) ?_
      rotate_left
      · (intro W; go_simp; try with_reducible rfl)
      try go_simp
      refine wpAny_done (by kernel_rfl) ?_ _
      go_wp2_with fail
      refine bodyPost_ret (v := .agg #[.string ss, .slice none 0 0]) ?_ rfl ?_
      · simp [results, Tryz.results68, go_sem, v0, v1]
      · refine TreePost.mk rfl (HR.out _) ?_
        have hd : Below w.heap.size w w3 := hbb.out.drew.trans (HB3.out.mono (by show w.heap.size ≤ w2.heap.size; omega))
        exact (hd.setCell (by simp) _).setCell (by simp) _
    · refine AllReady.cons rfl (fun K hK => ?_) AllReady.nil
      go_simp
      go_wp2_with (go_at_call 88; (with_reducible refine (HD.out _).mono ?_); rintro e w3 ⟨rfl, hb3⟩; have hret3 := (blk_drew HRET.out).below hb3 HRET.out.lt; have hbox4 := (blk_drew HBOX.out).below hb3 HBOX.out.lt; obtain ⟨v0, v1, y0, y1⟩ := blk_cells hret3; obtain ⟨x0, x1, _, _⟩ := blk_cells hbox4; have HB3 := Lib.hid hb3; have hsz3 : w.heap.size + 2 ≤ w3.heap.size := Nat.le_trans hsz hb3.size; clear hret3 hb3 hbox4)
      try (refine hK _ _ ?_; clear hK K)
      try go_simp
      refine wpAny_ready (rs := [13]) (by kernel_rfl) (by simp) ?_
      refine AllReady.cons rfl (fun K hK => ?_) AllReady.nil
      go_simp
      refine hK _ _ ?_
      clear hK K
      try go_simp
      refine wpAny_take (i := 18) (v := ?_) rfl (by kernel_rfl) (by kernel_rfl) (by kernel_rfl) (fun _ _ _ h => h) (Or.inl ⟨by rfl, ?_⟩) ?_
      rotate_left
      · (intro W; go_simp; try with_reducible rfl)
      try go_simp
      refine wpAny_take (i := 19) (v := ?_) rfl (by kernel_rfl) (by kernel_rfl) (by kernel_rfl) (fun _ _ _ h => h) (Or.inl ⟨by rfl, ?_⟩) ?_
      rotate_left
      · (intro W; go_simp; try with_reducible rfl)
      try go_simp
      refine wpAny_take (i := 20) (v := ?_) rfl (by kernel_rfl) (by kernel_rfl) (by kernel_rfl) (fun _ _ _ h => h) (Or.inl ⟨by rfl, ?_⟩) ?_
      rotate_left
      · (intro W; go_simp; try with_reducible rfl)
      try go_simp
      refine wpAny_done (by kernel_rfl) ?_ _
      go_wp2_with fail
      refine bodyPost_ret (v := .agg #[.string ss, .slice none 0 0]) ?_ rfl ?_
      · simp [results, Tryz.results68, go_sem, v0, v1]
      · refine TreePost.mk rfl (HR.out _) ?_
        have hd : Below w.heap.size w w3 := hbb.out.drew.trans (HB3.out.mono (by show w.heap.size ≤ w2.heap.size; omega))
        exact (hd.setCell (by simp) _).setCell (by simp) _

end Go.Proofs.YtomaknmemhpghaaGreatDoor
