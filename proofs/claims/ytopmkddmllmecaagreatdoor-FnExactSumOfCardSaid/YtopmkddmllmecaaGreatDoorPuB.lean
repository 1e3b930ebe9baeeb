/- The model's l2Put: a term that is new and comes last. -/
import Derived.Test.YtopmkddmllmecaaGreatDoorPnL
set_option linter.unusedSimpArgs false
set_option linter.unusedVariables false
namespace Go.Proofs.YtopmkddmllmecaaGreatDoor
open Go.RowKit Rt Go.Lib

theorem put_last (Bb gw : Nat) (l : List B) (ts bs : List Int) (s : ByteArray) (t b : Int) (w : World) (hn : l.length < 300) (ht : ts.length = l.length) (hb : bs.length = l.length) (ht0 : t ≠ 0) (hsm : smallF t b = true) (hm : s.size ≤ maxLen) (hBB : Bb ≤ w.heap.size)
    (hF : ∀ g c, w.ownsRow Bb 9 1 (.slice (some ⟨g, 0, none⟩) l.length c) l.length (slv l) → Calls Tryz.prog 68 #[.slice (some ⟨g, 0, none⟩) l.length c, .string s] w fun e w' => e = .returned (.int .i64 (l.length : Nat)) ∧ Below w.heap.size w w')
    (hW : Work w Bb gw l ts bs false) :
    Calls Tryz.prog 36 #[.pointer (some ⟨gw, 0, none⟩), .string s, .int .i64 t, .int .i64 b] w fun e w' => e = .returned (.tuple #[]) ∧ w.grownBy w' (some gw) ∧ Work w' Bb gw (l ++ [s.data.toList]) (ts ++ [t]) (bs ++ [b]) false := by
  have h := put_lastK Bb gw l.length l ts bs s t b w hn ht hb ht0 hsm hm hBB (Nat.le_refl _) rfl hF hW
  rw [List.take_length, List.drop_length, List.append_nil, List.take_of_length_le (by omega), List.drop_of_length_le (by omega), List.append_nil, List.take_of_length_le (by omega), List.drop_of_length_le (by omega), List.append_nil] at h
  exact h

end Go.Proofs.YtopmkddmllmecaaGreatDoor
