/- The program's TermNames. The program's TermNames. -/
import Derived.Test.YtomaknmemhpghaaGreatDoorNmA
import Derived.Test.YtomaknmemhpghaaGreatDoorKdB
import Derived.Test.YtomaknmemhpghaaGreatDoorShelfB
import Derived.Shelf.SlIter.Nil
import Derived.Shelf.SortM.Plain
import Derived.Shelf.SortM.SortNone
/-! The program's TermNames. -/
namespace Go.Proofs.YtomaknmemhpghaaGreatDoor
open Go.RowKit Go.Maps Go.Sort Go.Shelf

/-- The sort's two contracts at this program. -/
theorem sortsN (m : Nat) : AnyZ.SortsIn Tryz.prog Tryz.sortedN_ren Fence.wide m :=
  ⟨fun blk off cap ss W hH hblk hsz => callsIn_wide.2 (AnyM.slices_Sort_string Tryz.sortN blk off cap ss W hH hblk hsz),
   fun p cap W => callsIn_wide.2 (AnyM.slices_Sort_string_none Tryz.sortN p cap W)⟩

/-- The keys of a map: a function value over one new block. -/
theorem mapsKeysN (mb : Option Nat) (W : World) : Calls Tryz.prog 74 #[.map mb] W fun e w' => e = .returned (.func (.func 107) #[] #[.pointer (some ⟨W.heap.size, 0, none⟩)]) ∧ w' = W.alloc (.cells #[.map mb] 71) :=
  (callsIn_wide (n := 5)).1 (AnyZ.keys_in Tryz.keysN Fence.wide 5 trivial rfl mb W)

set_option maxHeartbeats 1000000 in
/-- The keys, sorted, in a row of the call's own. -/
theorem sortedKeysN {H : Type} (b nn : Nat) (D0 : DataW H) (R : Value → Option (DataW H × List MemPlace)) (w : World) (hown : w.ownsMap Tryz.prog 9 R b nn D0) (hmax : Maps.size D0 ≤ maxLen) (hbytes : Maps.size D0 * 16 ≤ 140737488355328) :
    Calls Tryz.prog 73 #[.func (.func 107) #[] #[.pointer (some ⟨w.heap.size, 0, none⟩)]] (w.alloc (.cells #[.map (some b)] 71)) fun e w' => ∃ (v : Value) (ss : List (List UInt8)), e = .returned v ∧ ss.Perm (strKeys D0) ∧
      w'.ownsRow (w.alloc (.cells #[.map (some b)] 71)).heap.size 9 1 v ss.length ((ss.mergeSort (fun x y => decide (x ≤ y))).map encStr) ∧ (v = .slice none 0 0 ↔ ss = []) ∧ Below (w.alloc (.cells #[.map (some b)] 71)).heap.size (w.alloc (.cells #[.map (some b)] 71)) w' := by
  have hbl := hown.lt
  have hseq : SeqGives Fence.wide 2 Tryz.prog 107 #[.pointer (some ⟨w.heap.size, 0, none⟩)] encStr (fun ss => ss.Perm (strKeys D0)) (Maps.size D0) (w.alloc (.cells #[.map (some b)] 71)) :=
    AnyZ.keys_gives (ρ := Tryz.keysN_ren) { Tryz.keysN with } Fence.wide _ trivial rfl (by omega) w.heap.size b nn D0 _ (by simp) (by simp) (by
      obtain ⟨es, clock, hb, Ft, hs, hD⟩ := hown
      exact ⟨es, clock, (Below.heap_alloc _ _ b hbl).trans hb, Ft, hs, hD⟩)
  exact (callsIn_wide (n := 5)).1 (AnyZ.sorted_in Tryz.sortedN Fence.wide 5 trivial trivial trivial trivial rfl (by omega) (sortsN _) (enters_of Tryz.func106 (by kernel_rfl) rfl) 107 #[.pointer (some ⟨w.heap.size, 0, none⟩)] trivial (enters_of Tryz.func107 (by kernel_rfl) rfl) _ _ hmax hbytes _ hseq)

end Go.Proofs.YtomaknmemhpghaaGreatDoor

/-! The program's TermNames. -/
namespace Go.Proofs.YtomaknmemhpghaaGreatDoor
open Go.RowKit Rt Go.Lib
open Go.ChangeMaps Go.MapKept Go.Maps Go.WideMaps

theorem names_perm {w : World} {m n : Nat} {D : DataW Value} {t : Term} (hC : Cnt w m n D (names t)) (hok : ok 0 t = true) : (nmL t).Perm (strKeys D) := by
  obtain ⟨es, hD, hpw, _⟩ := hC.map.entries (string_keyed Tryz.underlying9)
  obtain ⟨es', hD', hko⟩ := hC.map.keysOf
  obtain rfl : es = es' := by rw [hD] at hD'; simpa using hD'
  subst hD
  exact perm_strKeys hpw (fun p hp => by obtain ⟨v, hv⟩ := hko p hp; obtain ⟨x, _, hx, _⟩ := Maps.keyOf_str Tryz.underlying9 hv; exact ⟨x, hx⟩) (nmL_nodup t) (fun x => by rw [hC.has x, decide_eq_true_eq]; exact nmL_mem 0 t hok x)

set_option maxHeartbeats 1600000 in
set_option maxRecDepth 100000 in
theorem implTermNames (s : ByteArray) (hs : s.size ≤ maxLen) (w : World) :
    Calls Tryz.prog 32 #[.string s] w (KidsPost w (namesRes s.data.toList)) := by
  have HC : Hid (∀ w1, Pool (fun _ => False) w1 (w.heap.size + 1) w.heap.size 0 (.map []) → Calls Tryz.prog 52 #[.pointer (some ⟨w.heap.size + 1, 0, none⟩), .string s] w1 (PartPost (fun _ => False) w1 (w.heap.size + 1) w.heap.size 0 4000 (termOf s.data.toList))) :=
    fun w1 hP => read_any _ _ _ 0 _ s hs w1 (by omega) hP
  have HT : Hid (namesRes s.data.toList = match termOf s.data.toList with | some t => (bys (nmL t), true) | none => ([], false)) := rfl
  have HOK : Hid (∀ t, termOf s.data.toList = some t → ok 0 t = true ∧ size t ≤ 60) := fun t h => termOf_ok _ t h
  generalize namesRes s.data.toList = x at HT ⊢
  generalize termOf s.data.toList = r at HC HT HOK
  go_enter Tryz.func32, Tryz.ntmps32
  go_wp2_with fail
  refine (newTermPool_any _).mono ?_
  rintro e w1 ⟨rfl, hb1, hz, hP⟩
  have HB1 := Lib.hid hb1
  have HC1 := Lib.hid (HC.out w1 hP)
  have hw1 : w.heap.size ≤ w1.heap.size := hb1.size
  clear hb1 hP hz
  go_wp2_with fail
  refine HC1.out.mono ?_
  intro e w2 hq
  cases r with
  | none =>
    obtain ⟨hg, rfl⟩ := hq
    have hs2 : w.heap.size ≤ w2.heap.size := Nat.le_trans hw1 hg.size
    have HG := Lib.hid hg
    clear hg
    go_wp2_with fail
    go_ret2
    exact KidsPost.mk [] HT.out rfl ((below_pool HB1.out HG.out).alloc hs2 _) hs2 (own_new w2 9 #[] 0 1 w2.heap.size (Nat.le_refl _) rfl (by decide)) rfl
  | some t =>
    obtain ⟨hg, v, D, n, rfl, hn, hv, hP⟩ := hq
    obtain ⟨bv, _, _, _, rfl, -, -⟩ := RepPF.head _ _ hv
    obtain ⟨o1, o2⟩ := HOK.out t rfl
    have hs2 : w.heap.size ≤ w2.heap.size := Nat.le_trans hw1 hg.size
    have HG := Lib.hid hg
    have HD := Lib.hid (degrees_any (fun k => k < w2.heap.size) 0 t _ w2 (by omega) o1 (fun _ h => h) (RepPF.move (fun _ _ _ => rfl) (fun k _ hk => hk) _ _ hv))
    have HP : Hid (∀ w' m n D (ss : List B), Cnt w' m n D (names t) → ss.Perm (strKeys D) → (ss.mergeSort (fun x y => decide (x ≤ y))).map encStr = strv (bys (nmL t)) ∧ ss.length = (bys (nmL t)).length) := by
      intro w' m n D ss hC hp
      have h1 := hp.trans (names_perm hC o1).symm
      have h2 := nmL_sort t ss h1
      refine ⟨?_, by rw [bys_len]; exact h1.length_eq⟩
      rw [strv_bys]
      show (ss.mergeSort Go.leB).map encStr = _
      rw [h2]; rfl
    have HX : Hid (x = (bys (nmL t), true)) := HT.out
    generalize bys (nmL t) = rr at HP HX
    clear hg hv hP o1
    go_wp2_with fail
    refine HD.out.mono ?_
    rintro e w3 ⟨rfl, hb3, D3, hC3⟩
    have HB3 := Lib.hid ((below_pool HB1.out HG.out).trans (hb3.mono hs2))
    have HC3 := Lib.hid hC3
    clear hb3 hC3
    go_wp2_with fail
    refine (mapsKeysN _ _).mono ?_
    rintro e w4 ⟨rfl, rfl⟩
    have hms : Maps.size D3 ≤ 60 := Nat.le_trans HC3.out.map.size_le o2
    go_wp2_with fail
    refine (sortedKeysN w2.heap.size _ D3 _ w3 HC3.out.map (by unfold maxLen; omega) (by omega)).mono ?_
    rintro e w5 ⟨v5, ss, rfl, hS, hrow, -, hb5⟩
    obtain ⟨hv1, hv2⟩ := HP.out _ _ _ _ ss HC3.out hS
    have hs3 := HB3.out.size
    have HB5 := Lib.hid ((HB3.out.alloc HB3.out.size (.cells #[.map (some w2.heap.size)] 71)).trans (hb5.mono (by simp; omega)))
    obtain ⟨A5, c5, rfl⟩ := own_shape hrow
    rw [hv1] at hrow
    have HO5 := Lib.hid (own_mono hrow (base' := w.heap.size) (by simp; omega))
    have HV2 := Lib.hid hv2.symm
    clear hrow hb5 hv1 hv2 hS
    go_wp2_with fail
    go_ret2
    exact KidsPost.mk rr HX.out HV2.out HB5.out (Nat.le_refl _) HO5.out rfl

end Go.Proofs.YtomaknmemhpghaaGreatDoor
