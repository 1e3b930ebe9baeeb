/- The program's TermDegree. -/
import Derived.Test.YtomaknmemhpghaaGreatDoorDgA
import Derived.Test.YtomaknmemhpghaaGreatDoorSwE
namespace Go.Proofs.YtomaknmemhpghaaGreatDoor
open Go.RowKit Rt Go.Lib
open Go.ChangeMaps Go.MapKept Go.Maps Go.WideMaps

/-- What TermDegree tells. -/
def degRes (l a : B) : Int := match termOf l with
  | some t => if isName a = true then ((names t).count a : Int) else -1
  | none => -1

set_option maxHeartbeats 1600000 in
set_option maxRecDepth 100000 in
theorem implTermDegree (s : ByteArray) (a : B) (hs : s.size ≤ maxLen) (ha : a.length ≤ maxLen) (w : World) :
    Calls Tryz.prog 40 #[.string s, .string ⟨a.toArray⟩] w fun e w' => e = .returned (.int .i64 (degRes s.data.toList a)) ∧ Below w.heap.size w w' := by
  have HC : Hid (∀ w1, Pool (fun _ => False) w1 (w.heap.size + 1) w.heap.size 0 (.map []) → Calls Tryz.prog 52 #[.pointer (some ⟨w.heap.size + 1, 0, none⟩), .string s] w1 (PartPost (fun _ => False) w1 (w.heap.size + 1) w.heap.size 0 4000 (termOf s.data.toList))) :=
    fun w1 hP => read_any _ _ _ 0 _ s hs w1 (by omega) hP
  have HA : Hid (∀ W, Calls Tryz.prog 64 #[.string ⟨a.toArray⟩] W fun e w' => e = .returned (.bool (isName a)) ∧ W = w') := fun W => isName_any a W ha
  have HT : Hid (degRes s.data.toList a = match termOf s.data.toList with | some t => if isName a = true then ((names t).count a : Int) else -1 | none => -1) := rfl
  have HOK : Hid (∀ t, termOf s.data.toList = some t → ok 0 t = true ∧ size t ≤ 60) := fun t h => termOf_ok _ t h
  have hsz : (⟨a.toArray⟩ : ByteArray).size ≤ maxLen := by simpa [ByteArray.size] using ha
  have hkey := Lib.hid (keyOf_string_mk (P := Tryz.prog) Tryz.underlying9 hsz)
  clear hsz
  generalize degRes s.data.toList a = x at HT ⊢
  generalize termOf s.data.toList = r at HC HT HOK
  go_enter Tryz.func40, Tryz.ntmps40
  go_wp2_with fail
  refine (newTermPool_any _).mono ?_
  rintro e w1 ⟨rfl, hb1, hz, hP⟩
  have HB1 := Lib.hid hb1
  have HC1 := Lib.hid (HC.out w1 hP)
  clear hb1 hP hz
  go_wp2_with fail
  refine HC1.out.mono ?_
  intro e w2 hq
  cases r with
  | none =>
    obtain ⟨hg, rfl⟩ := hq
    have HG := Lib.hid hg
    clear hg
    go_wp2_with fail
    go_ret
    exact ⟨by rw [HT.out]; rfl, below_pool HB1.out HG.out⟩
  | some t =>
    obtain ⟨hg, v, D, n, rfl, hn, hv, hP⟩ := hq
    obtain ⟨bv, _, _, _, rfl, -, -⟩ := RepPF.head _ _ hv
    obtain ⟨o1, o2⟩ := HOK.out t rfl
    have HG := Lib.hid hg
    have HD := Lib.hid (degrees_any (fun k => k < w2.heap.size) 0 t _ w2 (by omega) o1 (fun _ h => h) (RepPF.move (fun _ _ _ => rfl) (fun k _ hk => hk) _ _ hv))
    clear hg hv hP o1
    cases h1 : isName a
    · rw [h1] at HA
      have HX : Hid (x = -1) := by show _ = _; rw [HT.out]; simp [h1]
      clear h1
      go_wp2_with (go_at_call 64; refine (HA.out _).mono ?_; rintro e w' ⟨rfl, rfl⟩)
      go_ret
      exact ⟨by rw [HX.out]; rfl, below_pool HB1.out HG.out⟩
    · rw [h1] at HA
      have HX : Hid (x = ((names t).count a : Int)) := by show _ = _; rw [HT.out]; simp [h1]
      clear h1
      go_wp2_with (first
        | (go_at_call 64; refine (HA.out _).mono ?_; rintro e w' ⟨rfl, rfl⟩)
        | (go_at_call 69; refine HD.out.mono ?_; rintro e w3 ⟨rfl, hb3, D3, hC3⟩; have HB3 := Lib.hid hb3; have HC3 := Lib.hid hC3; clear hb3 hC3)
        | (at_lookup; refine wpList_lookup_own_int _ rfl _ _ 71 rfl 9 3 .i64 (string_keyed Tryz.underlying9) Tryz.underlying71 Tryz.underlying3 (zero_int _) w2.heap.size _ _ rfl HC3.out.map _ _ rfl hkey.out ?_; intro c hat hwc; obtain rfl : c = (((names t).count a : Nat) : Int) := (by have h1 := (HC3.out.val a).symm.trans hat; injection h1 with h1; injection h1 with _ h1; exact h1.symm); clear hat hwc))
      go_ret
      exact ⟨by rw [HX.out]; rfl, (below_pool HB1.out HG.out).trans (HB3.out.mono (below_pool HB1.out HG.out).size)⟩

end Go.Proofs.YtomaknmemhpghaaGreatDoor
