/- The program's TermStep at a place that is not there. -/
import Derived.Test.YtcbciaofajhklaaGreatDoorRdZ
import Derived.Test.YtcbciaofajhklaaGreatDoorNatE
set_option linter.unusedSimpArgs false
set_option linter.unusedVariables false
namespace Go.Proofs.YtcbciaofajhklaaGreatDoor
open Go.RowKit Rt

set_option maxHeartbeats 800000 in
set_option maxRecDepth 100000 in
theorem implTermStep_no (s : ByteArray) (t : Term) (hs : s.size ≤ maxLen) (ht : termOf s.data.toList = some t) (w : World) :
    Calls Tryz.prog 8 #[.string s, .int .i64 (redN t)] w fun e w' => e = .returned (.tuple #[.agg #[.slice none 0 0, .slice none 0 0, .slice none 0 0], .bool false]) ∧ Below w.heap.size w w' := by
  have HC : Hid (∀ (W w1 : World), Pool (fun _ => False) w1 (W.heap.size + 1) W.heap.size 0 (.map []) → Calls Tryz.prog 19 #[.pointer (some ⟨W.heap.size + 1, 0, none⟩), .string s] w1 (PartPost (fun _ => False) w1 (W.heap.size + 1) W.heap.size 0 4000 (some t))) :=
    fun W w1 hP => by rw [← ht]; exact read_any _ _ _ 0 _ s hs w1 (by omega) hP
  have HB0 : Hid (Below w.heap.size w (w.alloc (.cells #[.slice none 0 0, .slice none 0 0, .slice none 0 0] 28))) := (Below.refl w.heap.size w).alloc (Nat.le_refl _) _
  have HH0 := Lib.hid (Blk.new w 28 #[.slice none 0 0, .slice none 0 0, .slice none 0 0])
  have HZ0 : Hid ((w.alloc (.cells #[.slice none 0 0, .slice none 0 0, .slice none 0 0] 28)).heap.size = w.heap.size + 1) := by show _ = _; simp
  have hz : size t ≤ 60 := (termOf_facts _ _ ht).2
  have hrn := redN_le t
  have HRE : Hid (∀ (v : Value) (W : World), RepPF (fun q => q < W.heap.size) W t v → Calls Tryz.prog 20 #[v] W (RedPost (fun q => q < W.heap.size) W t)) := fun v W hv => redexes_any (fun q => q < W.heap.size) t v W (by omega) (fun _ h => h) hv
  have HRP : Hid (∀ (W : World) (e : Ending) (w' : World), RedPost (fun q => q < W.heap.size) W t e w' → Below W.heap.size W w' ∧ ∃ g c, e = .returned (.slice (some ⟨g, 0, none⟩) (redN t) c)) := fun W e w' h => by
    obtain ⟨hb, g, c, ys, he, _⟩ := h
    exact ⟨hb, g, c, he⟩
  have hrn2 : redN t ≤ 60 := by omega
  clear ht
  generalize redN t = rn at *
  go_enter Tryz.func8, Tryz.ntmps8
  go_wp2_with fail
  refine (newTermPool_any _).mono ?_
  rintro e w1 ⟨rfl, hb, hz2, hP⟩
  have HB := Lib.hid hb
  have HC1 := Lib.hid (HC.out _ w1 hP)
  have HH1 := Lib.hid (HH0.out.below hb HH0.out.lt)
  generalize hWW : w.alloc (.cells #[.slice none 0 0, .slice none 0 0, .slice none 0 0] 28) = W0 at *
  clear hb hP hz2 hWW
  go_wp2_with fail
  refine HC1.out.mono ?_
  intro e w2 hq
  obtain ⟨hg, v, D, n, rfl, -, hv, -⟩ := hq
  have hw12 := hg.size
  have HR := Lib.hid (HRE.out v w2 (RepPF.move (fun _ _ _ => rfl) (fun _ _ h => h) _ _ hv))
  obtain ⟨b, rfl⟩ := RepPF.ptr _ _ hv
  have HB2 := Lib.hid (below_pool HB.out hg)
  have HH2 := Lib.hid (HH1.out.grown hg (by have := HZ0.out; intro e; injection e with e; omega))
  have hlt2 := HH2.out.lt
  clear hg hv
  go_wp2_with fail
  refine HR.out.mono ?_
  rintro e w3 hq3
  obtain ⟨hb3, g, c, rfl⟩ := HRP.out _ _ _ hq3
  have HB3 := Lib.hid (HB2.out.trans (hb3.mono HB2.out.size))
  have hh3 := HH2.out.below hb3 hlt2
  obtain ⟨z0, z1, z2, y0, y1, y2⟩ := blk_three' hh3
  obtain ⟨u0, u1, u2⟩ := blk_three (set3_blk hh3 (.slice none 0 0) (.slice none 0 0) (.slice none 0 0))
  clear hb3 hh3 hq3
  have d0 : decide ((rn : Int) < 0) = false := by simp
  have d1 : decide ((rn : Int) ≥ (rn : Int)) = true := by simp
  have d2 : ¬ ((rn : Int) < 0) := by omega
  go_wp2_with fail
  refine bodyPost_ret (v := .tuple #[.agg #[.slice none 0 0, .slice none 0 0, .slice none 0 0], .bool false]) ?_ rfl ?_
  · simp [results, Tryz.results8, go_sem, u0, u1, u2]
  · exact ⟨rfl, (((HB0.out.trans (HB3.out.mono HB0.out.size)).setCell (by simp) _).setCell (by simp) _).setCell (by simp) _⟩

end Go.Proofs.YtcbciaofajhklaaGreatDoor
