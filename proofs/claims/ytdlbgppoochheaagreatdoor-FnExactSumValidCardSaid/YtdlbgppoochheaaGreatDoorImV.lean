/- The program's SumValid. -/
import Derived.Test.YtdlbgppoochheaaGreatDoorSumR
import Derived.Test.YtdlbgppoochheaaGreatDoorBsB
namespace Go.Proofs.YtdlbgppoochheaaGreatDoor
open Go.RowKit Rt Go.Lib

theorem three_grown {w0 W W2 : World} {g m : Nat} {x1 x2 x3 : Value} (h : W.cell? ⟨g, 0, none⟩ = some x1 ∧ W.cell? ⟨g, 1, none⟩ = some x2 ∧ W.cell? ⟨g, 2, none⟩ = some x3 ∧ Below w0.heap.size w0 W) (hg : W.grownBy W2 (some m)) (h1 : w0.heap.size ≤ m) (h2 : g ≠ m) : W2.cell? ⟨g, 0, none⟩ = some x1 ∧ W2.cell? ⟨g, 1, none⟩ = some x2 ∧ W2.cell? ⟨g, 2, none⟩ = some x3 ∧ Below w0.heap.size w0 W2 := by
  obtain ⟨k1, k2, k3, k8⟩ := h
  have hs := k8.size
  refine ⟨grown_cell hg h2 k1, grown_cell hg h2 k2, grown_cell hg h2 k3, ⟨hg.os.trans k8.os, hg.tape.trans k8.tape, hg.output.trans k8.output, Nat.le_trans hs hg.size, fun q hq => ?_⟩⟩
  rw [hg.block q (by omega) (by intro e; injection e with e; omega)]
  exact k8.block q hq

/-- What newTermPool gives. -/
def NewPost (W : World) (e : Ending) (w' : World) : Prop := ∃ p m : Nat, e = .returned (.pointer (some ⟨p, 0, none⟩)) ∧ Below W.heap.size W w' ∧ W.heap.size ≤ m ∧ Pool (fun _ => False) w' p m 0 (.map [])

theorem newPool (W : World) : Calls Tryz.prog 23 #[] W (NewPost W) :=
  (newTermPool_any W).mono fun _ _ ⟨he, hb, _, hP⟩ => ⟨_, _, he, hb, Nat.le_refl _, hP⟩

theorem SumPost.shape {F : Nat → Prop} {w w' : World} {p m n : Nat} {ss : List ByteArray} {ts bs : List Int} {e : Ending} (h : SumPost F w p m n ss ts bs e w') : ∃ o, e = .returned (.tuple #[.map o, .bool (sumOk ss ts bs)]) := by
  obtain ⟨_, h⟩ := h
  unfold SumRes at h
  split at h
  · rename_i hx
    obtain ⟨mm, D, n', Dm, he, _⟩ := h
    exact ⟨some mm, by rw [he, hx]⟩
  · rename_i hx
    exact ⟨none, by rw [h, hx]⟩

set_option maxHeartbeats 3200000 in
set_option maxRecDepth 100000 in
theorem implSumValid (A B C : Option Addr) (ca cb cc : Nat) (ss : List ByteArray) (ts bs : List Int) (w : World) (hs : ∀ s ∈ ss, s.size ≤ maxLen) (hl1 : ss.length ≤ maxLen) (hl2 : ts.length ≤ maxLen) (hl3 : bs.length ≤ maxLen)
    (hA : Texts w A ss) (hB : Ints w B ts) (hC : Ints w C bs) :
    Calls Tryz.prog 9 #[.agg #[.slice A ss.length ca, .slice B ts.length cb, .slice C bs.length cc]] w fun e w' => e = .returned (.bool (sumOk ss ts bs)) ∧ Below w.heap.size w w' := by
  have HR : Hid (∀ (W : World) (p m : Nat), Below w.heap.size w W → Pool (fun _ => False) W p m 0 (.map []) → Calls Tryz.prog 24 #[.pointer (some ⟨p, 0, none⟩), .agg #[.slice A ss.length ca, .slice B ts.length cb, .slice C bs.length cc]] W (SumPost (fun _ => False) W p m 0 ss ts bs)) :=
    fun W p m hb hP => readSum_any _ p m 0 _ A B C ca cb cc ss ts bs W (by omega) hs hl1 hl2 hl3 (hA.below hb) (hB.below hb) (hC.below hb) hP
  have HSH : Hid (∀ (F : Nat → Prop) (W W' : World) (p m n : Nat) (e : Ending), SumPost F W p m n ss ts bs e W' → W.grownBy W' (some m) ∧ ∃ o, e = .returned (.tuple #[.map o, .bool (sumOk ss ts bs)])) := fun F W W' p m n e h => ⟨h.1, h.shape⟩
  clear hs hA hB hC
  generalize sumOk ss ts bs = x at HSH ⊢
  go_enter Tryz.func9, Tryz.ntmps9
  go_wp2_with fail
  have hbk := Blk.new w 28 #[.slice A ss.length ca, .slice B ts.length cb, .slice C bs.length cc]
  have HS1 := three_drew (w0 := w) (x1 := .slice A ss.length ca) (x2 := .slice B ts.length cb) (x3 := .slice C bs.length cc) ⟨hbk.cell 0, hbk.cell 1, hbk.cell 2, below_alloc (Below.refl _ w) _⟩
  clear hbk
  go_region_held3 (fun W' => (W'.cell? ⟨w.heap.size, 0, none⟩ = some (.slice A ss.length ca) ∧ W'.cell? ⟨w.heap.size, 1, none⟩ = some (.slice B ts.length cb) ∧ W'.cell? ⟨w.heap.size, 2, none⟩ = some (.slice C bs.length cc) ∧ Below w.heap.size w W'))
    (first
      | (with_reducible assumption)
      | (with_reducible exact three_below ‹_ ∧ _ ∧ _ ∧ Below _ _ _› hba)
      | (with_reducible exact three_grown ‹_ ∧ _ ∧ _ ∧ Below _ _ _› hgb (by omega) (by omega)))
    (first
      | (go_at_call 23; (with_reducible refine Calls.mono (newPool _) ?_); rintro e wa ⟨pp, mm, rfl, hba, hmm, hP⟩; have HP := Lib.hid hP; have hm1 : w.heap.size + 1 ≤ mm := (by simp at hmm; omega); clear hP hmm)
      | (go_at_call 24; obtain ⟨k1, k2, k3, k8⟩ := (‹_ ∧ _ ∧ _ ∧ Below _ _ _›); (with_reducible refine Calls.mono (HR.out _ _ _ k8 HP.out) ?_); intro e wb hq; obtain ⟨hgb, oo, rfl⟩ := HSH.out _ _ _ _ _ _ _ hq; clear hq))
  all_goals
    have hS := ‹_ ∧ _ ∧ _ ∧ Below _ _ _›
    have HBF := Lib.hid (And.right (And.right (And.right hS)))
    clear hS
    go_wp2_with fail
    go_ret
    exact ⟨rfl, HBF.out⟩

end Go.Proofs.YtdlbgppoochheaaGreatDoor
