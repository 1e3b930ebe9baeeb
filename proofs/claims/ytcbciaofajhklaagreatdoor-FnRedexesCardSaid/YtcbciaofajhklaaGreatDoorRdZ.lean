/- The program's RedexCount, TermNormal and HeadName. -/
import Derived.Test.YtcbciaofajhklaaGreatDoorRdI
import Derived.Test.YtcbciaofajhklaaGreatDoorImpZ
import Derived.Test.YtcbciaofajhklaaGreatDoorCtA
set_option linter.unusedSimpArgs false
set_option linter.unusedVariables false
namespace Go.Proofs.YtcbciaofajhklaaGreatDoor
open Go.RowKit Rt

theorem termOf_facts (l : B) (t : Term) (h : termOf l = some t) : ok 0 t = true ∧ size t ≤ 60 := by
  obtain ⟨f1, _, _, f4⟩ := loose_some _ _ (termOf_some _ _ h).1
  exact ⟨f1, f4⟩

set_option maxHeartbeats 800000 in
theorem implRedexCount (s : ByteArray) (hs : s.size ≤ maxLen) (w : World) :
    Calls Tryz.prog 6 #[.string s] w fun e w' => e = .returned (.int .i64 (redRes s.data.toList)) ∧ Below w.heap.size w w' := by
  have HC : Hid (∀ w1, Pool (fun _ => False) w1 (w.heap.size + 1) w.heap.size 0 (.map []) → Calls Tryz.prog 19 #[.pointer (some ⟨w.heap.size + 1, 0, none⟩), .string s] w1 (PartPost (fun _ => False) w1 (w.heap.size + 1) w.heap.size 0 4000 (termOf s.data.toList))) :=
    fun w1 hP => read_any _ _ _ 0 _ s hs w1 (by omega) hP
  have HT : Hid (redRes s.data.toList = match termOf s.data.toList with | some t => (redN t : Int) | none => -1) := rfl
  have HZ : Hid (∀ t, termOf s.data.toList = some t → size t ≤ 60) := fun t h => (termOf_facts _ _ h).2
  generalize redRes s.data.toList = x at HT ⊢
  generalize termOf s.data.toList = r at HC HT HZ
  go_enter Tryz.func6, Tryz.ntmps6
  go_wp2_with fail
  refine (newTermPool_any _).mono ?_
  rintro e w1 ⟨rfl, hb, hz, hP⟩
  have HB := Lib.hid hb
  have HC1 := Lib.hid (HC.out w1 hP)
  clear hb hP hz
  go_wp2_with fail
  refine HC1.out.mono ?_
  intro e w2 hq
  cases r with
  | none =>
    obtain ⟨hg, rfl⟩ := hq
    have HG := Lib.hid hg
    clear hg
    go_wp2_with fail
    go_ret
    exact ⟨by rw [HT.out]; rfl, below_pool HB.out HG.out⟩
  | some t =>
    obtain ⟨hg, v, D, n, rfl, -, hv, -⟩ := hq
    have hz := HZ.out t rfl
    have hw12 := hg.size
    have HR := Lib.hid (redexes_any (fun q => q < w2.heap.size) t v w2 (by omega) (fun _ h => h) (RepPF.move (fun _ _ _ => rfl) (fun _ _ h => h) _ _ hv))
    obtain ⟨b, rfl⟩ := RepPF.ptr _ _ hv
    have HG := Lib.hid hg
    have HB2 := Lib.hid (below_pool HB.out hg)
    clear hg hv
    go_wp2_with fail
    refine HR.out.mono ?_
    rintro e w3 ⟨hb3, g, c, ys, rfl, -⟩
    have HB3 := Lib.hid (HB2.out.trans (hb3.mono HB2.out.size))
    have hrn := redN_le t
    clear hb3
    go_wp2_with fail
    go_ret
    exact ⟨by rw [HT.out]; rfl, HB3.out⟩

set_option maxHeartbeats 800000 in
theorem implTermNormal (s : ByteArray) (hs : s.size ≤ maxLen) (w : World) :
    Calls Tryz.prog 10 #[.string s] w fun e w' => e = .returned (.bool (redRes s.data.toList == 0)) ∧ Below w.heap.size w w' := by
  have HC : Hid (∀ W, Calls Tryz.prog 6 #[.string s] W fun e w' => e = .returned (.int .i64 (redRes s.data.toList)) ∧ Below W.heap.size W w') := fun W => implRedexCount s hs W
  generalize redRes s.data.toList = z at HC ⊢
  go_enter Tryz.func10, Tryz.ntmps10
  go_wp2_with (go_at_call 6; refine (HC.out _).mono ?_; rintro e w1 ⟨rfl, hb⟩; have HB1 := Lib.hid hb; clear hb)
  go_ret
  exact ⟨rfl, HB1.out⟩

end Go.Proofs.YtcbciaofajhklaaGreatDoor
