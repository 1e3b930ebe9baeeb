/- The texts of a sum on the way, sorted. -/
import Derived.Test.YtopmkddmllmecaaGreatDoorAdA
import Derived.Test.YtopmkddmllmecaaGreatDoorShelfC
import Derived.Shelf.SlIter.Nil
import Derived.Shelf.SortM.Plain
import Derived.Shelf.SortM.SortNone
namespace Go.Proofs.YtopmkddmllmecaaGreatDoor
open Go.RowKit Go.Maps Go.Sort Go.Shelf

/-- The sort's two contracts at this program. -/
theorem sortsS (m : Nat) : AnyZ.SortsIn Tryz.prog Tryz.sortedN_ren Fence.wide m :=
  ⟨fun blk off cap ss W hH hblk hsz => callsIn_wide.2 (AnyM.slices_Sort_string Tryz.sortN blk off cap ss W hH hblk hsz),
   fun p cap W => callsIn_wide.2 (AnyM.slices_Sort_string_none Tryz.sortN p cap W)⟩

/-- The keys of a map: a function value over one new block. -/
theorem mapsKeysS (mb : Option Nat) (W : World) : Calls Tryz.prog 101 #[.map mb] W fun e w' => e = .returned (.func (.func 119) #[] #[.pointer (some ⟨W.heap.size, 0, none⟩)]) ∧ w' = W.alloc (.cells #[.map mb] 53) :=
  (callsIn_wide (n := 5)).1 (AnyZ.keys_in Tryz.keysN Fence.wide 5 trivial rfl mb W)

set_option maxHeartbeats 1000000 in
/-- The keys, sorted, in a row of the call's own. -/
theorem sortedKeysS {H : Type} (b nn : Nat) (D0 : DataW H) (R : Value → Option (DataW H × List MemPlace)) (w : World) (hown : w.ownsMap Tryz.prog 9 R b nn D0) (hmax : Maps.size D0 ≤ maxLen) (hbytes : Maps.size D0 * 16 ≤ 140737488355328) :
    Calls Tryz.prog 100 #[.func (.func 119) #[] #[.pointer (some ⟨w.heap.size, 0, none⟩)]] (w.alloc (.cells #[.map (some b)] 53)) fun e w' => ∃ (v : Value) (ss : List (List UInt8)), e = .returned v ∧ ss.Perm (strKeys D0) ∧
      w'.ownsRow (w.alloc (.cells #[.map (some b)] 53)).heap.size 9 1 v ss.length ((ss.mergeSort (fun x y => decide (x ≤ y))).map encStr) ∧ (v = .slice none 0 0 ↔ ss = []) ∧ Below (w.alloc (.cells #[.map (some b)] 53)).heap.size (w.alloc (.cells #[.map (some b)] 53)) w' := by
  have hbl := hown.lt
  have hseq : SeqGives Fence.wide 2 Tryz.prog 119 #[.pointer (some ⟨w.heap.size, 0, none⟩)] encStr (fun ss => ss.Perm (strKeys D0)) (Maps.size D0) (w.alloc (.cells #[.map (some b)] 53)) :=
    AnyZ.keys_gives (ρ := Tryz.keysN_ren) { Tryz.keysN with } Fence.wide _ trivial rfl (by omega) w.heap.size b nn D0 _ (by simp) (by simp) (by
      obtain ⟨es, clock, hb, Ft, hs, hD⟩ := hown
      exact ⟨es, clock, (Below.heap_alloc _ _ b hbl).trans hb, Ft, hs, hD⟩)
  exact (callsIn_wide (n := 5)).1 (AnyZ.sorted_in Tryz.sortedN Fence.wide 5 trivial trivial trivial trivial rfl (by omega) (sortsS _) (enters_of Tryz.func118 (by kernel_rfl) rfl) 119 #[.pointer (some ⟨w.heap.size, 0, none⟩)] trivial (enters_of Tryz.func119 (by kernel_rfl) rfl) _ _ hmax hbytes _ hseq)

end Go.Proofs.YtopmkddmllmecaaGreatDoor

namespace Go.Proofs.YtopmkddmllmecaaGreatDoor
open Go.RowKit Rt Go.Lib Go.Maps Go.Sort
open Go.ChangeMaps Go.MapKept Go.WideMaps

theorem own_base {w : World} {base base' : Nat} {e : TypeId} {size n : Nat} {v : Value} {xs : List Value} (h : w.ownsRow base e size v n xs) (hb : base' ≤ base) : w.ownsRow base' e size v n xs := by
  refine ⟨h.1, ?_⟩
  rcases h.2 with h | ⟨g, cap, cur, hv, hg, r⟩
  · exact .inl h
  · exact .inr ⟨g, cap, cur, hv, by omega, r⟩

/-- What texts gives. -/
def SumKeys (w : World) (D : DataW Value) (e : Ending) (w' : World) : Prop :=
  ∃ (v : Value) (ss : List (List UInt8)), e = .returned v ∧ ss.Perm (strKeys D) ∧ w'.ownsRow w.heap.size 9 1 v ss.length ((ss.mergeSort (fun x y => decide (x ≤ y))).map encStr) ∧ Below w.heap.size w w'

set_option maxHeartbeats 1600000 in
set_option maxRecDepth 100000 in
theorem texts_any (mm k : Nat) (D : DataW Value) (w : World) (hk : k < 1000000) (hown : w.ownsMap Tryz.prog 9 RV mm k D) :
    Calls Tryz.prog 75 #[.map (some mm)] w (SumKeys w D) := by
  have HO := Lib.hid hown
  clear hown
  go_enter Tryz.func75, Tryz.ntmps75
  go_wp2_with fail
  refine (mapsKeysS _ _).mono ?_
  rintro e w1 ⟨rfl, rfl⟩
  have hms : Maps.size D ≤ 1000000 := Nat.le_trans HO.out.size_le (by omega)
  go_wp2_with fail
  refine (sortedKeysS mm _ D _ w HO.out (by unfold maxLen; omega) (by omega)).mono ?_
  rintro e w5 ⟨v5, ss, rfl, hS, hrow, -, hb5⟩
  have HB5 : Hid (Below w.heap.size w w5) := (show Below w.heap.size w (w.alloc (.cells #[.map (some mm)] 53)) by go_grown).trans (hb5.mono (by simp))
  have HO5 := Lib.hid (own_base (base' := w.heap.size) hrow (by simp))
  have HS := Lib.hid hS
  obtain ⟨A5, c5, rfl⟩ := own_shape hrow
  clear hrow hb5 hS
  go_wp2_with fail
  go_ret
  exact ⟨_, ss, rfl, HS.out, HO5.out, HB5.out⟩

end Go.Proofs.YtopmkddmllmecaaGreatDoor
