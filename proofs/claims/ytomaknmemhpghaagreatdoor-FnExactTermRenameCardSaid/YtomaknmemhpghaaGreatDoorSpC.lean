/- The model's l1Swap at the atoms: rename, bind, open. -/
import Derived.Test.YtomaknmemhpghaaGreatDoorSpB
import Derived.Deep.RegionWith
import Derived.StillTailTactics
namespace Go.Proofs.YtomaknmemhpghaaGreatDoor
open Go.RowKit Rt

theorem blk_drew {w : World} {g : Nat} {t : TypeId} {cs : Array Value} (h : Blk w g t cs) : Blk w.drew g t cs := h

/-- What the walk of l1Swap at an atom needs to know of its texts. -/
theorem empty_facts (s : ByteArray) (h : s.data.toList ≠ []) : (s.toList == []) = false ∧ (s.toList != []) = true ∧ s.toList.isEmpty = false ∧ (!s.toList.isEmpty) = true := by
  rw [ByteArray.toList_eq]
  generalize s.data.toList = l at *
  cases l with
  | nil => exact absurd rfl h
  | cons c l => simp

set_option maxHeartbeats 800000 in
set_option maxRecDepth 100000 in
theorem swap_ren_atom (a b : B) (ha : a ≠ []) (hb : b ≠ []) (F : Nat → Prop) (s : B) (k : Nat) (w : World) :
    Calls Tryz.prog 68 #[.agg #[st s, .slice none 0 0], .string ⟨a.toArray⟩, .int .i64 (-1), .string ⟨b.toArray⟩, .int .i64 k] w (TreePost F w (.atom (if s = a then b else s))) := by
  generalize hres : (if s = a then b else s) = res
  obtain ⟨a1, a2, a3, a4⟩ := empty_facts ⟨a.toArray⟩ ha
  obtain ⟨b1, b2, b3, b4⟩ := empty_facts ⟨b.toArray⟩ hb
  have hrep : ∀ w, RepS w (.atom s) (.agg #[st s, .slice none 0 0]) := fun w => by rw [RepS]
  have hsa : ((⟨s.toArray⟩ : ByteArray).toList == (⟨a.toArray⟩ : ByteArray).toList) = decide (s = a) := by
    rw [ByteArray.toList_eq, ByteArray.toList_eq]
    rw [Bool.eq_iff_iff]; simp
  rw [st_eq] at hrep ⊢
  have HS : Hid (∀ x : B, x = s → st x = .string ⟨s.toArray⟩) := fun x h => by rw [h]; rfl
  have HB : Hid (∀ x : B, x = b → st x = .string ⟨b.toArray⟩) := fun x h => by rw [h]; rfl
  generalize (⟨a.toArray⟩ : ByteArray) = sa at *
  generalize (⟨b.toArray⟩ : ByteArray) = sb at *
  have hbox := Blk.new w 55 #[.string ⟨s.toArray⟩, .slice none 0 0]
  generalize (⟨s.toArray⟩ : ByteArray) = ss at *
  have hbox2 := hbox.alloc (.cells #[.string ⟨#[]⟩, .slice none 0 0] 55)
  have hret : Blk ((w.alloc (.cells #[.string ss, .slice none 0 0] 55)).alloc (.cells #[.string ⟨#[]⟩, .slice none 0 0] 55)) (w.heap.size + 1) 55 #[.string ⟨#[]⟩, .slice none 0 0] := by
    have := Blk.new (w.alloc (.cells #[.string ss, .slice none 0 0] 55)) 55 #[.string ⟨#[]⟩, .slice none 0 0]
    simpa using this
  have hW := below_two w (.cells #[.string ss, .slice none 0 0] 55) (.cells #[.string ⟨#[]⟩, .slice none 0 0] 55)
  clear hbox
  by_cases hq : s = a
  · have hsq : (ss.toList == sa.toList) = true := by rw [hsa]; simp [hq]
    have HR : Hid (∀ v, v = .agg #[.string sb, .slice none 0 0] → ∀ W, RepSF (fun q => F q ∨ w.heap.size ≤ q) W (.atom res) v) := by
      intro v hv W
      rw [RepSF, HB.out res (by rw [← hres, if_pos hq])]
      exact hv
    clear hsa hq hres
    go_enter Tryz.func68, Tryz.ntmps68
    go_wp2_with fail
    generalize (w.alloc (.cells #[.string ss, .slice none 0 0] 55)).alloc (.cells #[.string ⟨#[]⟩, .slice none 0 0] 55) = W at *
    refine (l1Head_any (.atom s) _ _ (hrep _)).mono ?_
    rintro e w2 ⟨rfl, hb2⟩
    rw [st_eq, show headT (.atom s) = [] from rfl]
    have hret2 := hret.below hb2 hret.lt
    have hbox3 := hbox2.below hb2 hbox2.lt
    obtain ⟨r0, r1, z0, z1⟩ := blk_cells hret2
    obtain ⟨p0, p1, _, _⟩ := blk_cells hbox3
    have hsz : w.heap.size + 2 ≤ w2.heap.size := hret2.lt
    have hbb := Lib.hid (hW.trans (hb2.mono hW.size))
    clear hret hret2 hbox2 hbox3 hW hb2 hrep
    go_wp2_with fail
    go_region
    all_goals
      go_wp2_with fail
      refine bodyPost_ret (v := .agg #[.string sb, .slice none 0 0]) ?_ rfl ?_
      · simp [results, Tryz.results68, go_sem, r0, r1]
      · refine TreePost.mk rfl (HR.out _ rfl _) ?_
        have hd : Below w.heap.size w w2.drew := hbb.out.drew
        exact (hd.setCell (by simp) _).setCell (by simp) _
  · have hsq : (ss.toList == sa.toList) = false := by rw [hsa]; simp [hq]
    have HR : Hid (∀ v, v = .agg #[.string ss, .slice none 0 0] → ∀ W, RepSF (fun q => F q ∨ w.heap.size ≤ q) W (.atom res) v) := by
      intro v hv W
      rw [RepSF, HS.out res (by rw [← hres, if_neg hq])]
      exact hv
    clear hsa hq hres
    go_enter Tryz.func68, Tryz.ntmps68
    go_wp2_with fail
    generalize (w.alloc (.cells #[.string ss, .slice none 0 0] 55)).alloc (.cells #[.string ⟨#[]⟩, .slice none 0 0] 55) = W at *
    refine (l1Head_any (.atom s) _ _ (hrep _)).mono ?_
    rintro e w2 ⟨rfl, hb2⟩
    rw [st_eq, show headT (.atom s) = [] from rfl]
    have hret2 := hret.below hb2 hret.lt
    have hbox3 := hbox2.below hb2 hbox2.lt
    obtain ⟨r0, r1, z0, z1⟩ := blk_cells hret2
    obtain ⟨p0, p1, _, _⟩ := blk_cells hbox3
    have hsz : w.heap.size + 2 ≤ w2.heap.size := hret2.lt
    have hbb := Lib.hid (hW.trans (hb2.mono hW.size))
    clear hret hret2 hbox2 hbox3 hW hb2 hrep
    go_wp2_with fail
    go_region
    all_goals
      go_wp2_with fail
      refine bodyPost_ret (v := .agg #[.string ss, .slice none 0 0]) ?_ rfl ?_
      · simp [results, Tryz.results68, go_sem, r0, r1]
      · refine TreePost.mk rfl (HR.out _ rfl _) ?_
        have hd : Below w.heap.size w w2.drew := hbb.out.drew
        exact (hd.setCell (by simp) _).setCell (by simp) _

set_option maxHeartbeats 800000 in
set_option maxRecDepth 100000 in
theorem swap_bind_atom (a : B) (ha : a ≠ []) (F : Nat → Prop) (s : B) (k : Nat) (w : World) (hk : k < 100) :
    Calls Tryz.prog 68 #[.agg #[st s, .slice none 0 0], .string ⟨a.toArray⟩, .int .i64 (-1), .string ⟨#[]⟩, .int .i64 k] w (TreePost F w (.atom (if s = a then dec k else s))) := by
  generalize hres : (if s = a then dec k else s) = res
  obtain ⟨a1, a2, a3, a4⟩ := empty_facts ⟨a.toArray⟩ ha
  have HD := Lib.hid (l6Dec_small k hk)
  have hrep : ∀ w, RepS w (.atom s) (.agg #[st s, .slice none 0 0]) := fun w => by rw [RepS]
  have hsa : ((⟨s.toArray⟩ : ByteArray).toList == (⟨a.toArray⟩ : ByteArray).toList) = decide (s = a) := by
    rw [ByteArray.toList_eq, ByteArray.toList_eq]
    rw [Bool.eq_iff_iff]; simp
  rw [st_eq] at hrep ⊢
  have HS : Hid (∀ x : B, x = s → st x = .string ⟨s.toArray⟩) := fun x h => by rw [h]; rfl
  have HB : Hid (∀ x : B, x = dec k → st x = .string ⟨(dec k).toArray⟩) := fun x h => by rw [h]; rfl
  generalize (⟨a.toArray⟩ : ByteArray) = sa at *
  generalize (⟨(dec k).toArray⟩ : ByteArray) = sb at *
  have hbox := Blk.new w 55 #[.string ⟨s.toArray⟩, .slice none 0 0]
  generalize (⟨s.toArray⟩ : ByteArray) = ss at *
  have hbox2 := hbox.alloc (.cells #[.string ⟨#[]⟩, .slice none 0 0] 55)
  have hret : Blk ((w.alloc (.cells #[.string ss, .slice none 0 0] 55)).alloc (.cells #[.string ⟨#[]⟩, .slice none 0 0] 55)) (w.heap.size + 1) 55 #[.string ⟨#[]⟩, .slice none 0 0] := by
    have := Blk.new (w.alloc (.cells #[.string ss, .slice none 0 0] 55)) 55 #[.string ⟨#[]⟩, .slice none 0 0]
    simpa using this
  have hW := below_two w (.cells #[.string ss, .slice none 0 0] 55) (.cells #[.string ⟨#[]⟩, .slice none 0 0] 55)
  clear hbox
  by_cases hq : s = a
  · have hsq : (ss.toList == sa.toList) = true := by rw [hsa]; simp [hq]
    have HR : Hid (∀ v, v = .agg #[.string sb, .slice none 0 0] → ∀ W, RepSF (fun q => F q ∨ w.heap.size ≤ q) W (.atom res) v) := by
      intro v hv W
      rw [RepSF, HB.out res (by rw [← hres, if_pos hq])]
      exact hv
    clear hsa hq hres
    go_enter Tryz.func68, Tryz.ntmps68
    go_wp2_with fail
    generalize (w.alloc (.cells #[.string ss, .slice none 0 0] 55)).alloc (.cells #[.string ⟨#[]⟩, .slice none 0 0] 55) = W at *
    refine (l1Head_any (.atom s) _ _ (hrep _)).mono ?_
    rintro e w2 ⟨rfl, hb2⟩
    rw [st_eq, show headT (.atom s) = [] from rfl]
    have hret2 := hret.below hb2 hret.lt
    have hbox3 := hbox2.below hb2 hbox2.lt
    obtain ⟨r0, r1, z0, z1⟩ := blk_cells hret2
    obtain ⟨p0, p1, _, _⟩ := blk_cells hbox3
    have hsz : w.heap.size + 2 ≤ w2.heap.size := hret2.lt
    have hbb := Lib.hid (hW.trans (hb2.mono hW.size))
    have HRET := Lib.hid hret2
    clear hret hret2 hbox2 hbox3 hW hb2 hrep
    go_wp2_with fail
    go_region
    all_goals
      go_wp2_with (go_at_call 88; refine (HD.out _).mono ?_; rintro e w3 ⟨rfl, hb3⟩; have hret3 := (blk_drew HRET.out).below hb3 HRET.out.lt; obtain ⟨v0, v1, y0, y1⟩ := blk_cells hret3; have HB3 := Lib.hid hb3; have hsz3 : w.heap.size + 2 ≤ w3.heap.size := Nat.le_trans hsz hb3.size; clear hret3 hb3)
      refine bodyPost_ret (v := .agg #[.string sb, .slice none 0 0]) ?_ rfl ?_
      · simp [results, Tryz.results68, go_sem, v0, v1]
      · refine TreePost.mk rfl (HR.out _ rfl _) ?_
        have hd : Below w.heap.size w w3 := hbb.out.drew.trans (HB3.out.mono (by show w.heap.size ≤ w2.heap.size; omega))
        exact (hd.setCell (by simp) _).setCell (by simp) _
  · have hsq : (ss.toList == sa.toList) = false := by rw [hsa]; simp [hq]
    have HR : Hid (∀ v, v = .agg #[.string ss, .slice none 0 0] → ∀ W, RepSF (fun q => F q ∨ w.heap.size ≤ q) W (.atom res) v) := by
      intro v hv W
      rw [RepSF, HS.out res (by rw [← hres, if_neg hq])]
      exact hv
    clear hsa hq hres
    go_enter Tryz.func68, Tryz.ntmps68
    go_wp2_with fail
    generalize (w.alloc (.cells #[.string ss, .slice none 0 0] 55)).alloc (.cells #[.string ⟨#[]⟩, .slice none 0 0] 55) = W at *
    refine (l1Head_any (.atom s) _ _ (hrep _)).mono ?_
    rintro e w2 ⟨rfl, hb2⟩
    rw [st_eq, show headT (.atom s) = [] from rfl]
    have hret2 := hret.below hb2 hret.lt
    have hbox3 := hbox2.below hb2 hbox2.lt
    obtain ⟨r0, r1, z0, z1⟩ := blk_cells hret2
    obtain ⟨p0, p1, _, _⟩ := blk_cells hbox3
    have hsz : w.heap.size + 2 ≤ w2.heap.size := hret2.lt
    have hbb := Lib.hid (hW.trans (hb2.mono hW.size))
    clear hret hret2 hbox2 hbox3 hW hb2 hrep
    go_wp2_with fail
    go_region
    all_goals
      go_wp2_with fail
      refine bodyPost_ret (v := .agg #[.string ss, .slice none 0 0]) ?_ rfl ?_
      · simp [results, Tryz.results68, go_sem, r0, r1]
      · refine TreePost.mk rfl (HR.out _ rfl _) ?_
        have hd : Below w.heap.size w w2.drew := hbb.out.drew
        exact (hd.setCell (by simp) _).setCell (by simp) _

end Go.Proofs.YtomaknmemhpghaaGreatDoor
