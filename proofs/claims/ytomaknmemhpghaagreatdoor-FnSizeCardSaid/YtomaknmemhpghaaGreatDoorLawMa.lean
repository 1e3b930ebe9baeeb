/- (its contract and closed facts) The law FnSize: it holds for every code. -/
import Derived.Test.YtomaknmemhpghaaGreatDoorWalkM
import Derived.Test.YtomaknmemhpghaaGreatDoorLawKit
import Derived.Test.YtomaknmemhpghaaGreatDoorCards
import Derived.Test.YtomaknmemhpghaaGreatDoorTie
namespace Go.Proofs.YtomaknmemhpghaaGreatDoor.fnSize
open Go.ChangeShapes Go.WideShapes Go.ChangeAt Go.RowKit

theorem laidOut : laidOutB Tryz.prog = true := by kernel_rfl
theorem cellsText : Tryz.prog.cellsOf 5 = 1 := by kernel_rfl

set_option maxRecDepth 100000 in
theorem contract (H : Type) (enc : TypeId × Value → H) (W : World) (base : Nat) (args : Array Value) (ds gs : List (DataW H)) (before : List MemPlace)
    (hval : ∀ (j : Nat) t v, Tryz.f5.params[j]? = some t → args[j]? = some v → Value.okWide Tryz.prog W .any base t v)
    (hW : DataW.Whole enc Tryz.prog Tryz.f5.params.toList Rows.fnSizeSpec.vars false W args.toList ds gs before) :
    Calls Tryz.prog 5 args W fun e W' => ∃ v, e = .returned v ∧ Rows.fnSizeSpec.post enc Tryz.prog Tryz.f5 false true false false W args v W' := by
  have hW' := hW
  obtain ⟨p, q, hA0, hV, rfl, hfz, hnd⟩ := hW
  have hA : DataW.TrodAll enc Tryz.prog W 0 (fun _ => true) true Tryz.f5.params.toList args.toList ds p := hA0
  rw [Tryz.params5] at hA hval
  obtain ⟨v0, d0, rfl, rfl, h0⟩ := trodAll_one hA
  obtain ⟨rfl, rfl⟩ := trodVars_none hV
  obtain ⟨a0, len, cap, rfl⟩ := okWide_slice Tryz.underlying22 (hval 0 22 v0 rfl rfl)
  have h0k := h0
  obtain ⟨fuel, hf⟩ := h0
  clear hA0
  simp only [List.append_nil] at hW'
  have hlt : ∀ x ∈ p, x.block < W.heap.size := fun x hx => by simpa using hW'.lt x hx
  have fin : ∀ (W' : World), (Rows.fnSizeSpec.fn H ([d0] ++ [])).args = [d0] → (Rows.fnSizeSpec.fn H ([d0] ++ [])).vars = [] → (Rows.fnSizeSpec.fn H ([d0] ++ [])).results = [.lit (.bool true)] → Below W.heap.size W W' →
      Rows.fnSizeSpec.post enc Tryz.prog Tryz.f5 false true false false W #[.slice a0 len cap] (.bool true) W' := by
    intro W' ea ev er hb
    refine law_post (pa := p) (pv := []) hW' (fun _ _ _ => ?_) ?_ (by rw [ev]; rfl) hb (fun x hx => .inl hx)
    · rw [er]; exact trodAll_cons_mk (shut_bool Tryz.underlying4 _) trodAll_mk0
    · rw [ea]; exact trodAll_mk1 (Below.trod laidOut (by kernel_rfl) (of_decide_eq_true (by kernel_rfl)) h0k hb hlt)
  rcases open_ints Tryz.underlying22 Tryz.underlying5 cellsText hf with ⟨hcs, hx⟩ | ⟨a, len', cap', zs, hcs, _, hl, hm, hz, hx, hcell, hws⟩
  · simp [Value.cells] at hcs
    obtain ⟨rfl, rfl, rfl⟩ := hcs
    simp only [Prod.mk.injEq] at hx
    obtain ⟨rfl, rfl⟩ := hx
    refine (walkFnSize none 0 0 W (by unfold maxLen; omega) (Nat.le_refl _) (fun j hj => by omega)).mono fun e W' ⟨he, hb⟩ => ?_
    subst he
    exact ⟨_, rfl, fin W' rfl rfl rfl hb⟩
  · simp [Value.cells] at hcs
    obtain ⟨rfl, rfl, rfl⟩ := hcs
    simp only [Prod.mk.injEq] at hx
    obtain ⟨rfl, rfl⟩ := hx
    simp only [if_true] at hz
    have hT : Bytes W (some a) len := by
      intro j hj
      have hc := hcell j (by omega)
      have hw := hws (zs.getD j 0) (by rw [List.getD_eq_getElem?_getD, List.getElem?_eq_getElem (by omega)]; exact List.getElem_mem _)
      have h01 : 0 ≤ zs.getD j 0 ∧ zs.getD j 0 < 256 := u8_wf hw
      obtain ⟨g, o, spot⟩ := a
      obtain rfl : spot = none := by simpa [Addr.add] using World.cell?_spot (hcell 0 (by omega))
      rw [WideShapes.add_plain] at hc
      refine ⟨g, o, (zs.getD j 0).toNat, rfl, World.block_lt_of_cell? W _ hc, ?_, by omega⟩
      rw [hc, Int.toNat_of_nonneg h01.1]
    have hk := walkFnSize (some a) len cap W (by omega) (by omega) hT
    refine hk.mono fun e W' ⟨he, hb⟩ => ?_
    subst he
    exact ⟨_, rfl, fin W' rfl rfl rfl hb⟩

set_option maxRecDepth 100000 in
theorem lifted (os : Os) (started : os.Started) (H : Type) (enc : TypeId × Value → H) (F : Stop.Interp) :
    ReturnsInHanded {} Tryz.checked os 5 .any ((OpenSpec.ofChange Rows.fnSizeSpec).preRow enc Tryz.prog Tryz.f5 Rows.fnSizeRow.domain false Rows.fnSizeRow.laid) (((OpenSpec.ofChange Rows.fnSizeSpec).at F).post enc Tryz.prog Tryz.f5 false true false false) := by
  have hx : ∃ places, DataW.whole enc Tryz.prog ((World.doorLaid Tryz.prog 2000 os).forCall (fun _ _ => 0) ⟨#[], #[.slice none 0 0], []⟩).memory Tryz.f5.params.toList Rows.fnSizeSpec.vars false #[Value.slice none 0 0].toList 8 = some ([.nil], [], places) := ⟨[], by kernel_rfl⟩
  obtain ⟨places, hx⟩ := hx
  refine returnsInHanded_of_row (C := Tryz.checked) (s := OpenSpec.ofChange Rows.fnSizeSpec) own started (by kernel_rfl) Tryz.func5
    (witness_row_atRef (enc := enc) (C := Tryz.checked) false (World.doorLaid Tryz.prog 2000 os) #[.slice none 0 0] rfl (by kernel_rfl) (by kernel_rfl) (by kernel_rfl)
      (OpenSpec.preRow_of_cond 8 hx (by kernel_rfl) (fun k hk => by cases hk) (by kernel_rfl) (door_met os _))) ?_
  intro W base args ds gs before hval hW _ _ _ hL _ _
  exact contract H enc W base args ds gs before hval hW

set_option maxHeartbeats 8000000 in
set_option maxRecDepth 100000 in
theorem closed : joinedFacts Tryz.pinned.checked.prog 5 Tryz.f5 (OpenSpec.ofChange Rows.fnSizeSpec).bare Rows.fnSizeRow = true := by
  unfold joinedFacts
  repeat' (with_reducible (refine Bool.and_eq_true_iff.2 ⟨?_, ?_⟩))
  all_goals (as_aux_lemma => kernel_rfl)

end Go.Proofs.YtomaknmemhpghaaGreatDoor.fnSize
