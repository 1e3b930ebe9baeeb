/- The program's RedexCount, TermNormal and HeadName. -/
import Derived.Test.YtomaknmemhpghaaGreatDoorRdI
import Derived.Test.YtomaknmemhpghaaGreatDoorImpZ
import Derived.Test.YtomaknmemhpghaaGreatDoorCtA
set_option linter.unusedSimpArgs false
set_option linter.unusedVariables false
namespace Go.Proofs.YtomaknmemhpghaaGreatDoor
open Go.RowKit Rt

theorem termOf_facts (l : B) (t : Term) (h : termOf l = some t) : ok 0 t = true ∧ size t ≤ 60 := by
  obtain ⟨f1, _, _, f4⟩ := loose_some _ _ (termOf_some _ _ h).1
  exact ⟨f1, f4⟩

set_option maxHeartbeats 800000 in
theorem implRedexCount (s : ByteArray) (hs : s.size ≤ maxLen) (w : World) :
    Calls Tryz.prog 75 #[.string s] w fun e w' => e = .returned (.int .i64 (redRes s.data.toList)) ∧ Below w.heap.size w w' := by
  have HC : Hid (∀ w1, Pool (fun _ => False) w1 (w.heap.size + 1) w.heap.size 0 (.map []) → Calls Tryz.prog 52 #[.pointer (some ⟨w.heap.size + 1, 0, none⟩), .string s] w1 (PartPost (fun _ => False) w1 (w.heap.size + 1) w.heap.size 0 4000 (termOf s.data.toList))) :=
    fun w1 hP => read_any _ _ _ 0 _ s hs w1 (by omega) hP
  have HT : Hid (redRes s.data.toList = match termOf s.data.toList with | some t => (redN t : Int) | none => -1) := rfl
  have HZ : Hid (∀ t, termOf s.data.toList = some t → size t ≤ 60) := fun t h => (termOf_facts _ _ h).2
  generalize redRes s.data.toList = x at HT ⊢
  generalize termOf s.data.toList = r at HC HT HZ
  go_enter Tryz.func75, Tryz.ntmps75
  go_wp2_with fail
  refine (newTermPool_any _).mono ?_
  rintro e w1 ⟨rfl, hb, hz, hP⟩
  have HB := Lib.hid hb
  have HC1 := Lib.hid (HC.out w1 hP)
  clear hb hP hz
  go_wp2_with fail
  refine HC1.out.mono ?_
  intro e w2 hq
  cases r with
  | none =>
    obtain ⟨hg, rfl⟩ := hq
    have HG := Lib.hid hg
    clear hg
    go_wp2_with fail
    go_ret
    exact ⟨by rw [HT.out]; rfl, below_pool HB.out HG.out⟩
  | some t =>
    obtain ⟨hg, v, D, n, rfl, -, hv, -⟩ := hq
    have hz := HZ.out t rfl
    have hw12 := hg.size
    have HR := Lib.hid (redexes_any (fun q => q < w2.heap.size) t v w2 (by omega) (fun _ h => h) (RepPF.move (fun _ _ _ => rfl) (fun _ _ h => h) _ _ hv))
    obtain ⟨b, rfl⟩ := RepPF.ptr _ _ hv
    have HG := Lib.hid hg
    have HB2 := Lib.hid (below_pool HB.out hg)
    clear hg hv
    go_wp2_with fail
    refine HR.out.mono ?_
    rintro e w3 ⟨hb3, g, c, ys, rfl, -⟩
    have HB3 := Lib.hid (HB2.out.trans (hb3.mono HB2.out.size))
    have hrn := redN_le t
    clear hb3
    go_wp2_with fail
    go_ret
    exact ⟨by rw [HT.out]; rfl, HB3.out⟩

set_option maxHeartbeats 800000 in
theorem implTermNormal (s : ByteArray) (hs : s.size ≤ maxLen) (w : World) :
    Calls Tryz.prog 34 #[.string s] w fun e w' => e = .returned (.bool (redRes s.data.toList == 0)) ∧ Below w.heap.size w w' := by
  have HC : Hid (∀ W, Calls Tryz.prog 75 #[.string s] W fun e w' => e = .returned (.int .i64 (redRes s.data.toList)) ∧ Below W.heap.size W w') := fun W => implRedexCount s hs W
  generalize redRes s.data.toList = z at HC ⊢
  go_enter Tryz.func34, Tryz.ntmps34
  go_wp2_with (go_at_call 75; refine (HC.out _).mono ?_; rintro e w1 ⟨rfl, hb⟩; have HB1 := Lib.hid hb; clear hb)
  go_ret
  exact ⟨rfl, HB1.out⟩

set_option maxHeartbeats 1600000 in
theorem implHeadName (s : ByteArray) (hs : s.size ≤ maxLen) (w : World) :
    Calls Tryz.prog 30 #[.string s] w fun e w' => e = .returned (.tuple #[st (headRes s.data.toList).1, .bool (headRes s.data.toList).2]) ∧ Below w.heap.size w w' := by
  have HC : Hid (∀ w1, Pool (fun _ => False) w1 (w.heap.size + 1) w.heap.size 0 (.map []) → Calls Tryz.prog 52 #[.pointer (some ⟨w.heap.size + 1, 0, none⟩), .string s] w1 (PartPost (fun _ => False) w1 (w.heap.size + 1) w.heap.size 0 4000 (termOf s.data.toList))) :=
    fun w1 hP => read_any _ _ _ 0 _ s hs w1 (by omega) hP
  have HT : Hid (headRes s.data.toList = match termOf s.data.toList with | some t => headOf t | none => ([], false)) := rfl
  have HZ : Hid (∀ t, termOf s.data.toList = some t → size t ≤ 60) := fun t h => (termOf_facts _ _ h).2
  generalize headRes s.data.toList = x at HT ⊢
  generalize termOf s.data.toList = r at HC HT HZ
  go_enter Tryz.func30, Tryz.ntmps30
  go_wp2_with fail
  refine (newTermPool_any _).mono ?_
  rintro e w1 ⟨rfl, hb, hz, hP⟩
  have HB := Lib.hid hb
  have HC1 := Lib.hid (HC.out w1 hP)
  clear hb hP hz
  go_wp2_with fail
  refine HC1.out.mono ?_
  intro e w2 hq
  cases r with
  | none =>
    obtain ⟨hg, rfl⟩ := hq
    have HG := Lib.hid hg
    clear hg
    go_wp2_with fail
    go_ret2
    exact ⟨by rw [HT.out]; rfl, below_pool HB.out HG.out⟩
  | some t =>
    obtain ⟨hg, v, D, n, rfl, -, hv, -⟩ := hq
    have hz := HZ.out t rfl
    have hw12 := hg.size
    have hv2 : RepPF (fun q => q < w2.heap.size) w2 t v := RepPF.move (fun _ _ _ => rfl) (fun _ _ h => h) _ _ hv
    have HR := Lib.hid (redexes_any (fun q => q < w2.heap.size) t v w2 (by omega) (fun _ h => h) hv2)
    obtain ⟨b, rfl⟩ := RepPF.ptr _ _ hv
    have HG := Lib.hid hg
    have HB2 := Lib.hid (below_pool HB.out hg)
    have HV2 := Lib.hid hv2
    clear hg hv hv2
    go_wp2_with fail
    refine HR.out.mono ?_
    rintro e w3 ⟨hb3, g, c, ys, rfl, -⟩
    have HB3 := Lib.hid (HB2.out.trans (hb3.mono HB2.out.size))
    have HV3 := Lib.hid (RepPF.move (fun q _ hq2 => hb3.block q hq2) (fun _ h _ => h) _ _ HV2.out)
    have hrn := redN_le t
    clear hb3
    by_cases h0 : redN t = 0
    · have HO : Hid (headOf t = headAtom (down t)) := by show _ = _; rw [headOf, if_pos h0]
      rw [h0]
      clear h0 hrn
      go_wp2_with fail
      go_loopg [4] (size t) (fun g pv wr => w3 = wr ∧ ∃ (u : Term) (b : Nat), pv = .pointer (some ⟨b, 0, none⟩) ∧ g = size u ∧ Hid (down t = down u) ∧ Hid (RepPF (fun q => q < w2.heap.size) w3 u (.pointer (some ⟨b, 0, none⟩))))
      case atStart => exact ⟨rfl, t, b, rfl, rfl, rfl, HV3.out⟩
      case round =>
        obtain ⟨rfl, u, b, rfl, hgg, HDN, HRU⟩ := hrel
        by_cases hin : ∃ u', size u' < size u ∧ down u = down u' ∧ ∃ b', w3.cell? ⟨b, 5, none⟩ = some (.pointer (some ⟨b', 0, none⟩)) ∧ RepPF (fun q => q < w2.heap.size) w3 u' (.pointer (some ⟨b', 0, none⟩))
        · obtain ⟨u', hsz, hdn, b', c5, hru⟩ := hin
          have HX := Lib.hid (And.intro hdn hru)
          clear hdn hru
          go_wp2_with fail
          go_roundg (size u')
          case measure => omega
          case rel => exact ⟨rfl, u', b', rfl, rfl, HDN.out.trans HX.out.1, HX.out.2⟩
        · have hat : ∃ (kd : Nat) (a : B), w3.cell? ⟨b, 5, none⟩ = some (.pointer none) ∧ w3.cell? ⟨b, 0, none⟩ = some (.int .i64 kd) ∧ w3.cell? ⟨b, 1, none⟩ = some (st a) ∧ down u = u ∧ (kd = 0 ∧ headAtom u = (a, true) ∨ kd = 1 ∧ headAtom u = ([], false)) := by
            have hru := HRU.out
            cases u with
            | nm a =>
              rw [RepPF] at hru
              obtain ⟨b2, e, h6, _⟩ := hru
              injection e with e; injection e with e; injection e with e; subst e
              exact ⟨0, a, h6.2.2.2.2.1, h6.1, h6.2.1, by rw [down] <;> simp, .inl ⟨rfl, rfl⟩⟩
            | ix n =>
              rw [RepPF] at hru
              obtain ⟨b2, e, h6, _⟩ := hru
              injection e with e; injection e with e; injection e with e; subst e
              exact ⟨1, dec n, h6.2.2.2.2.1, h6.1, h6.2.1, by rw [down] <;> simp, .inr ⟨rfl, rfl⟩⟩
            | lam u =>
              rw [RepPF] at hru
              obtain ⟨b2, p, e, h6, h2, _⟩ := hru
              injection e with e; injection e with e; injection e with e; subst e
              obtain ⟨b', rfl⟩ := RepPF.ptr _ _ h2
              exact absurd ⟨u, by rw [size]; omega, by rw [down], b', h6.2.2.2.2.1, h2⟩ hin
            | app u l =>
              rw [RepPF] at hru
              obtain ⟨b2, p, q, xs, e, h6, h2, _⟩ := hru
              injection e with e; injection e with e; injection e with e; subst e
              obtain ⟨b', rfl⟩ := RepPF.ptr _ _ h2
              exact absurd ⟨u, by rw [size]; omega, by rw [down], b', h6.2.2.2.2.1, h2⟩ hin
          clear hin
          obtain ⟨kd, a, c5, c0, c1, hdn, hres⟩ := hat
          rw [st_eq] at c1
          rcases hres with ⟨rfl, hres⟩ | ⟨rfl, hres⟩
          all_goals
            have HX : Hid (x = headAtom u) := by show _ = _; rw [HT.out]; show headOf t = _; rw [HO.out, HDN.out, hdn]
            have HY := Lib.hid hres
            clear hres hdn
            go_wp2_with fail
            go_ret2
            exact ⟨by rw [HX.out, HY.out]; rfl, HB3.out⟩
    · have hpos : 0 < redN t := by omega
      have HO : Hid (headOf t = ([], false)) := by show _ = _; rw [headOf, if_neg h0]
      have HX : Hid (x = ([], false)) := by show _ = _; rw [HT.out]; exact HO.out
      generalize redN t = rn at *
      go_wp2_with fail
      go_ret2
      exact ⟨by rw [HX.out]; rfl, HB3.out⟩

end Go.Proofs.YtomaknmemhpghaaGreatDoor
