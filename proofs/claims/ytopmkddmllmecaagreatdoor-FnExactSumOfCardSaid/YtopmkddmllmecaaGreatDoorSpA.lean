/- The walk of the model's l6Dec, below a hundred. -/
import Derived.Test.YtopmkddmllmecaaGreatDoorSpecM
import Derived.Test.YtopmkddmllmecaaGreatDoorSpecK
import Derived.Test.YtopmkddmllmecaaGreatDoorPureD
import Derived.Laws.BytesArg
import Derived.IntWalk
namespace Go.Proofs.YtopmkddmllmecaaGreatDoor
open Go.RowKit Rt

theorem conv_byte (W : World) (x : Int) : (convert 139 9 (.slice (some ⟨W.heap.size, 0, none⟩) 1 1)).run Tryz.prog (W.alloc (.cells #[.int .u8 x] 5)) = .ok (.string ⟨#[UInt8.ofNat x.toNat]⟩) (W.alloc (.cells #[.int .u8 x] 5)) := by
  have h := run_convert_bytes_arg (P := Tryz.prog) (W.alloc (.cells #[.int .u8 x] 5)) 139 5 Tryz.underlying139 Tryz.underlying5 W.heap.size 0 1 1 [x] rfl (by
    intro i hi
    obtain rfl : i = 0 := by omega
    exact ((Blk.new W 5 #[.int .u8 x]).cell 0).trans rfl) 9 Tryz.underlying9
  exact h

set_option maxHeartbeats 800000 in
set_option maxRecDepth 100000 in
theorem l6Dec_one (n : Nat) (hn : n < 10) (w : World) :
    Calls Tryz.prog 103 #[.int .i64 n] w fun e w' => e = .returned (.string ⟨(dec n).toArray⟩) ∧ Below w.heap.size w w' := by
  have hcv := conv_byte
  have HD : Hid (dec n = [UInt8.ofNat (48 + n)]) := by show _ = _; simp [dec, hn]
  generalize dec n = d at HD ⊢
  go_enter Tryz.func103, Tryz.ntmps103
  go_wp2_with fail
  go_ret
  refine ⟨?_, by go_grown⟩
  rw [HD.out]
  simp

theorem conv_at (W : World) (b : Nat) (x : Int) (h : W.cell? ⟨b, 0, none⟩ = some (.int .u8 x)) : (convert 139 9 (.slice (some ⟨b, 0, none⟩) 1 1)).run Tryz.prog W = .ok (.string ⟨#[UInt8.ofNat x.toNat]⟩) W :=
  run_convert_bytes_arg (P := Tryz.prog) W 139 5 Tryz.underlying139 Tryz.underlying5 b 0 1 1 [x] rfl (by
    intro i hi
    obtain rfl : i = 0 := by omega
    exact h) 9 Tryz.underlying9

set_option maxHeartbeats 800000 in
set_option maxRecDepth 100000 in
theorem l6Dec_small (n : Nat) (hn : n < 100) (w : World) :
    Calls Tryz.prog 103 #[.int .i64 n] w fun e w' => e = .returned (.string ⟨(dec n).toArray⟩) ∧ Below w.heap.size w w' := by
  by_cases h10 : n < 10
  · exact l6Dec_one n h10 w
  have hcv2 : ∀ (W : World) (b : Nat), W.cell? ⟨b, 0, none⟩ = some (.int .u8 (48 + (n : Int) % 10)) → (convert 139 9 (.slice (some ⟨b, 0, none⟩) 1 1)).run Tryz.prog W = .ok (.string ⟨#[UInt8.ofNat (48 + (n : Int) % 10).toNat]⟩) W := fun W b h => conv_at W b _ h
  have hcv : ∀ (W : World), (convert 139 9 (.slice (some ⟨W.heap.size, 0, none⟩) 1 1)).run Tryz.prog (W.alloc (.cells #[.int .u8 (48 + (n : Int) % 10)] 5)) = .ok (.string ⟨#[UInt8.ofNat (48 + (n : Int) % 10).toNat]⟩) (W.alloc (.cells #[.int .u8 (48 + (n : Int) % 10)] 5)) := fun W => conv_byte W _
  have HD : Hid (dec n = [UInt8.ofNat (48 + n / 10), UInt8.ofNat (48 + n % 10)]) := by show _ = _; simp [dec, h10]
  have HC : Hid (∀ W, Calls Tryz.prog 103 #[.int .i64 ((n : Int) / 10)] W fun e w' => e = .returned (.string ⟨#[UInt8.ofNat (48 + n / 10)]⟩) ∧ Below W.heap.size W w') := by
    intro W
    have h := l6Dec_one (n / 10) (by omega) W
    have e : dec (n / 10) = [UInt8.ofNat (48 + n / 10)] := by unfold dec; rw [if_pos (by omega)]
    rw [e] at h
    exact h
  generalize dec n = d at HD ⊢
  generalize hx : UInt8.ofNat (48 + n / 10) = c at HC HD
  clear hx
  have e1 : (n : Int).tdiv 10 = (n : Int) / 10 := Int.tdiv_eq_ediv_of_nonneg (by omega)
  have e2 : IntKind.i64.wrap ((n : Int) / 10) = (n : Int) / 10 := IntWalk.i64_in _ (by omega)
  have e3 : (n : Int).tmod 10 = (n : Int) % 10 := Int.tmod_eq_emod_of_nonneg (by omega)
  have e4 : IntKind.i64.wrap ((n : Int) % 10) = (n : Int) % 10 := IntWalk.i64_in _ (by omega)
  have e5 : IntKind.i64.wrap (48 + (n : Int) % 10) = 48 + (n : Int) % 10 := IntWalk.i64_in _ (by omega)
  have e6 : IntKind.u8.wrap (48 + (n : Int) % 10) = 48 + (n : Int) % 10 := IntWalk.u8_in _ (by omega)
  go_enter Tryz.func103, Tryz.ntmps103
  go_wp2_with fail
  go_region_with (go_at_call 103; (with_reducible refine (HC.out _).mono ?_); rintro e w1 ⟨rfl, hb⟩; (try have hcc : w1.cell? ⟨w.heap.size, 0, none⟩ = some (.int .u8 (48 + (n : Int) % 10)) := by rw [hb.cell (p := ⟨w.heap.size, 0, none⟩) (by simp)]; exact (Blk.new w 5 #[.int .u8 (48 + (n : Int) % 10)]).cell 0); have HB := Lib.hid hb; clear hb)
  all_goals
    go_wp2_with fail
    refine bodyPost_ret (v := .string (⟨#[c]⟩ ++ ⟨#[UInt8.ofNat (48 + (n : Int) % 10).toNat]⟩)) ?_ rfl ⟨?_, ?_⟩
    · simp [results, Tryz.results103, go_sem, Act.put]
    · have hy : (48 + (n : Int) % 10).toNat = 48 + n % 10 := by omega
      rw [HD.out, hy]
      rfl
    · first
        | exact Below.trans (by go_grown) (HB.out.mono (by simp))
        | (have h1 : Below w.heap.size w w1 := Below.trans (by go_grown) HB.out
           exact h1.alloc h1.size _)

end Go.Proofs.YtopmkddmllmecaaGreatDoor
