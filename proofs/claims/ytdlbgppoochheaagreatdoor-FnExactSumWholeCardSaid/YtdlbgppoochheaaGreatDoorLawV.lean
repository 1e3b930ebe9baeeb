/- The law of SumWhole: for every sum the program answers as the model does. -/
import Derived.Test.YtdlbgppoochheaaGreatDoorWalkV
import Derived.Test.YtdlbgppoochheaaGreatDoorLawKit
import Derived.Test.YtdlbgppoochheaaGreatDoorSumK
import Derived.Deep.Strs
import Derived.Test.YtdlbgppoochheaaGreatDoorCards
import Derived.Test.YtdlbgppoochheaaGreatDoorTie
namespace Go.Proofs.YtdlbgppoochheaaGreatDoor.sumWhole
open Go.ChangeShapes Go.WideShapes Go.ChangeAt Go.RowKit

theorem laidOut : laidOutB Tryz.prog = true := by kernel_rfl
theorem cellsInt : Tryz.prog.cellsOf 3 = 1 := by kernel_rfl
theorem cellsText : Tryz.prog.cellsOf 9 = 1 := by kernel_rfl

set_option maxRecDepth 100000 in
theorem contract (H : Type) (enc : TypeId × Value → H) (W : World) (base : Nat) (args : Array Value) (ds gs : List (DataW H)) (before : List MemPlace)
    (hval : ∀ (j : Nat) t v, Tryz.f5.params[j]? = some t → args[j]? = some v → Value.okWide Tryz.prog W .any base t v)
    (hW : DataW.Whole enc Tryz.prog Tryz.f5.params.toList Rows.fnExactSumWholeSpec.vars false W args.toList ds gs before) :
    Calls Tryz.prog 5 args W fun e W' => ∃ v, e = .returned v ∧ Rows.fnExactSumWholeSpec.post enc Tryz.prog Tryz.f5 false true false false W args v W' := by
  have hW' := hW
  obtain ⟨p, q, hA0, hV, rfl, hfz, hnd⟩ := hW
  have hA : DataW.TrodAll enc Tryz.prog W 0 (fun _ => true) true Tryz.f5.params.toList args.toList ds p := hA0
  rw [Tryz.params5] at hA hval
  obtain ⟨v0, d0, rfl, rfl, h0⟩ := trodAll_one hA
  obtain ⟨rfl, rfl⟩ := trodVars_none hV
  obtain ⟨cs0, rfl, hcz⟩ := okWide_struct Tryz.underlying25 (hval 0 25 v0 rfl rfl)
  rw [show Tryz.prog.cellsOf 25 = 3 by kernel_rfl] at hcz
  obtain ⟨x0, x1, x2, rfl⟩ := three_of hcz
  have h0k := h0
  obtain ⟨fuel, hf⟩ := h0
  clear hA0
  simp only [List.append_nil] at hW'
  have hlt : ∀ x ∈ p, x.block < W.heap.size := fun x hx => by simpa using hW'.lt x hx
  have fin : ∀ (W' : World), (Rows.fnExactSumWholeSpec.fn H ([d0] ++ [])).args = [d0] → (Rows.fnExactSumWholeSpec.fn H ([d0] ++ [])).vars = [] → (Rows.fnExactSumWholeSpec.fn H ([d0] ++ [])).results = [.lit (.bool true)] → Below W.heap.size W W' →
      Rows.fnExactSumWholeSpec.post enc Tryz.prog Tryz.f5 false true false false W #[.agg #[x0, x1, x2]] (.bool true) W' := by
    intro W' ea ev er hb
    refine law_post (pa := p) (pv := []) hW' (fun _ _ _ => ?_) ?_ (by rw [ev]; rfl) hb (fun x hx => .inl hx)
    · rw [er]; exact trodAll_cons_mk (shut_bool Tryz.underlying4 _) trodAll_mk0
    · rw [ea]; exact trodAll_mk1 (Below.trod laidOut (by kernel_rfl) (of_decide_eq_true (by kernel_rfl)) h0k hb hlt)
  obtain ⟨y0, y1, y2, n, hx, hl, t0, t1, t2⟩ := Go.Deep.trod_struct3 Tryz.underlying25 hf
  rw [show Tryz.prog.cellsOf 22 = 1 by kernel_rfl] at t0
  rw [show Tryz.prog.cellsOf 23 = 1 by kernel_rfl] at t1 t2
  have t0' : DataW.trod enc Tryz.prog W 0 (fun _ => true) true n 22 [x0] = some y0 := t0
  have t1' : DataW.trod enc Tryz.prog W 0 (fun _ => true) true n 23 [x1] = some y1 := t1
  have t2' : DataW.trod enc Tryz.prog W 0 (fun _ => true) true n 23 [x2] = some y2 := t2
  obtain ⟨A0, n0, c0, ss, e0, hn0, hT, hws⟩ := sum_texts (open_strings Tryz.underlying22 Tryz.underlying9 cellsText t0')
  obtain ⟨A1, n1, c1, ts, e1, hn1, hI1⟩ := sum_ints (open_ints Tryz.underlying23 Tryz.underlying3 cellsInt t1')
  obtain ⟨A2, n2, c2, bs, e2, hn2, hI2⟩ := sum_ints (open_ints Tryz.underlying23 Tryz.underlying3 cellsInt t2')
  subst e0; subst e1; subst e2
  refine (walkSumWhole A0 A1 A2 c0 c1 c2 ss ts bs W hn0 hn1 hn2 hws hT hI1 hI2).mono fun e W' ⟨he, hb⟩ => ?_
  subst he
  exact ⟨_, rfl, fin W' rfl rfl rfl hb⟩

set_option maxRecDepth 100000 in
theorem lifted (os : Os) (started : os.Started) (H : Type) (enc : TypeId × Value → H) (F : Stop.Interp) :
    ReturnsInHanded {} Tryz.checked os 5 .any ((OpenSpec.ofChange Rows.fnExactSumWholeSpec).preRow enc Tryz.prog Tryz.f5 Rows.fnExactSumWholeRow.domain false Rows.fnExactSumWholeRow.laid) (((OpenSpec.ofChange Rows.fnExactSumWholeSpec).at F).post enc Tryz.prog Tryz.f5 false true false false) := by
  have hx : ∃ places, DataW.whole enc Tryz.prog ((World.doorLaid Tryz.prog 2000 os).forCall (fun _ _ => 0) ⟨#[], #[.agg #[.slice none 0 0, .slice none 0 0, .slice none 0 0]], []⟩).memory Tryz.f5.params.toList Rows.fnExactSumWholeSpec.vars false #[Value.agg #[.slice none 0 0, .slice none 0 0, .slice none 0 0]].toList 8 = some ([.agg [.nil, .nil, .nil]], [], places) := ⟨[], by kernel_rfl⟩
  obtain ⟨places, hx⟩ := hx
  refine returnsInHanded_of_row (C := Tryz.checked) (s := OpenSpec.ofChange Rows.fnExactSumWholeSpec) own started (by kernel_rfl) Tryz.func5
    (witness_row_atRef (enc := enc) (C := Tryz.checked) false (World.doorLaid Tryz.prog 2000 os) #[.agg #[.slice none 0 0, .slice none 0 0, .slice none 0 0]] rfl (by kernel_rfl) (by kernel_rfl) (by kernel_rfl)
      (OpenSpec.preRow_of_cond 8 hx (by kernel_rfl) (fun k hk => by cases hk) (by kernel_rfl) (door_met os _))) ?_
  intro W base args ds gs before hval hW _ _ _ hL _ _
  exact contract H enc W base args ds gs before hval hW

theorem said : Rows.FnExactSumWholeSaid :=
  OpenClaim.holds_of_cond 5 Tryz.f5 rfl rfl rfl rfl rfl rfl rfl ⟨rfl, rfl, rfl, rfl, rfl⟩ rfl rfl rfl rfl rfl (by kernel_rfl) Tryz.func5 (by kernel_rfl)
    (of_decide_eq_true (by kernel_rfl)) (by unfold Func.isWrapper; first | (rw [if_pos (by decide +kernel)]; kernel_rfl) | (rw [if_neg (by decide +kernel)]; exact ⟨rfl, rfl⟩))
    (fun os started H enc _ F => by rw [OpenClaim.pre_eq_preRow]; exact lifted os started H enc F)

theorem plain (f : FuncId) (fn : Func) (hf : Tryz.pinned.checked.prog.funcNamed "loop.example/resourceterms/laws.FnExactSumWhole" = some f) (hfn : Tryz.pinned.checked.prog.funcs[f]? = some fn) :
    true = Tryz.pinned.checked.prog.looks [] ∧ ∀ (j : Nat) t, fn.params[j]? = some t → Tryz.pinned.checked.prog.wantsStandIn t = false := by
  obtain rfl : f = 5 := Option.some.inj ((show Tryz.prog.funcNamed "loop.example/resourceterms/laws.FnExactSumWhole" = some 5 by kernel_rfl).symm.trans hf) |>.symm
  obtain rfl : fn = Tryz.f5 := (Option.some.inj (Tryz.func5.symm.trans hfn)).symm
  refine ⟨by kernel_rfl, fun j t ht => ?_⟩
  rw [Tryz.params5] at ht
  obtain rfl : t = 25 := by simpa using Array.mem_of_getElem? ht
  exact (show Tryz.prog.wantsStandIn 25 = false by kernel_rfl)

theorem card : Rows.FnExactSumWholeCardSaid :=
  Claim7.holds_tied_plain_at .later [] _ _ _ _ said (fun _ h => by cases h) (by kernel_rfl) (fun _ h => by cases h) fnExactSumWhole_row_tie rfl ⟨rfl, rfl⟩ (by kernel_rfl) rfl plain (by kernel_rfl)

end Go.Proofs.YtdlbgppoochheaaGreatDoor.sumWhole
