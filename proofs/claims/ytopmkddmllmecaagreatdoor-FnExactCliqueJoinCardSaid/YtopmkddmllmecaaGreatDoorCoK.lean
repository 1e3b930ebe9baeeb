/- The model's Uniform and Clique. -/
import Derived.Test.YtopmkddmllmecaaGreatDoorCoJ
set_option linter.unusedSimpArgs false
set_option linter.unusedVariables false
namespace Go.Proofs.YtopmkddmllmecaaGreatDoor
open Go.RowKit Rt Go.Lib

set_option maxHeartbeats 800000 in
set_option maxRecDepth 100000 in
theorem specUniform (a : ByteArray) (w : World) (ha : a.size ≤ maxLen) :
    Calls Tryz.prog 23 #[.string a] w fun e w' => e = .returned (.bool (cohRes a a)) ∧ Below w.heap.size w w' := by
  have HC := Lib.hid (specCoherent a a w ha ha)
  generalize cohRes a a = x at *
  unfold maxLen at ha
  go_enter Tryz.func23, Tryz.ntmps23
  go_wp2_with fail
  refine HC.out.mono ?_
  rintro e w2 ⟨rfl, hb2⟩
  have HB2 := Lib.hid hb2
  clear hb2
  go_wp2_with fail
  go_ret
  exact ⟨rfl, HB2.out⟩

set_option maxHeartbeats 3200000 in
set_option maxRecDepth 100000 in
theorem specClique (A : Option Addr) (c : Nat) (ss : List ByteArray) (w : World) (hn : ss.length ≤ 1048576) (hs : ∀ s ∈ ss, s.size ≤ maxLen) (hA : Texts w A ss) :
    Calls Tryz.prog 26 #[.slice A ss.length c] w fun e w' => e = .returned (.bool (joinT ss).isSome) ∧ Below w.heap.size w w' := by
  have HA := Lib.hid hA
  have HS := Lib.hid hs
  have HNT : Hid (∀ (i k : Nat) (a b : ByteArray), ss[i]? = some a → ss[k]? = some b → cohRes a b = false → (joinT ss).isSome = false) := fun i k a b h1 h2 h3 => joinT_not ss i k a b h1 h2 h3
  have HYES : Hid ((∀ (i k : Nat) (a b : ByteArray), ss[i]? = some a → ss[k]? = some b → k ≤ i → cohRes a b = true) → (joinT ss).isSome = true) := joinT_pairs ss
  generalize (joinT ss).isSome = R at *
  clear hA hs
  go_enter Tryz.func26, Tryz.ntmps26
  go_wp2_with fail
  go_loopw [3] (fun iv wr => ∃ i : Nat, i ≤ ss.length ∧ iv = .int .i64 i ∧ Hid (Below w.heap.size w wr) ∧ Hid (∀ (i' k : Nat) (a b : ByteArray), i' < i → ss[i']? = some a → ss[k]? = some b → k ≤ i' → cohRes a b = true)) (fun iv _ => ss.length - (intOf iv).toNat)
  case atStart => exact ⟨0, Nat.zero_le _, rfl, Below.refl _ _, fun i' k a b h => absurd h (Nat.not_lt_zero _)⟩
  case round =>
    obtain ⟨i, hi, rfl, hB, hP⟩ := hrel
    by_cases hlt : i < ss.length
    · go_wp2_with fail
      go_loopw [4] (fun kv wq => ∃ k : Nat, k ≤ i + 1 ∧ kv = .int .i64 k ∧ Hid (Below w.heap.size w wq) ∧ Hid (∀ (k' : Nat) (a b : ByteArray), k' < k → ss[i]? = some a → ss[k']? = some b → cohRes a b = true)) (fun kv _ => i + 1 - (intOf kv).toNat)
      case atStart => exact ⟨0, Nat.zero_le _, rfl, hB.out, fun k' a b h => absurd h (Nat.not_lt_zero _)⟩
      case round =>
        obtain ⟨k, hk, rfl, hB2, hP2⟩ := hrel
        by_cases hle : k ≤ i
        · obtain ⟨u, hu⟩ : ∃ u, ss[i]? = some u := ⟨ss[i], List.getElem?_eq_getElem hlt⟩
          obtain ⟨v, hv⟩ : ∃ v, ss[k]? = some v := ⟨ss[k], List.getElem?_eq_getElem (by omega)⟩
          obtain ⟨g, o, rfl, d1⟩ := (HA.out.below hB2.out) i u hu
          obtain ⟨g', o', hgo, d2⟩ := (HA.out.below hB2.out) k v hv
          injection hgo with hgo
          injection hgo with e1 e2
          subst e1; subst e2
          have HCC : Hid (∀ W, Calls Tryz.prog 21 #[.string u, .string v] W fun e w' => e = .returned (.bool (cohRes u v)) ∧ Below W.heap.size W w') := fun W => specCoherent u v W (HS.out u (List.mem_of_getElem? hu)) (HS.out v (List.mem_of_getElem? hv))
          have HU := Lib.hid hu
          have HV := Lib.hid hv
          clear hu hv
          cases hco : cohRes u v with
          | false =>
            rw [hco] at HCC
            have HRR : Hid (R = false) := HNT.out i k u v HU.out HV.out hco
            clear hco
            go_wp2_with fail
            go_region_with (go_at_call 21; (with_reducible refine (HCC.out _).mono ?_); rintro e w8 ⟨rfl, hb8⟩; have HB8 : Hid (Below w.heap.size w w8) := Below.trans (by first | exact hB2.out | exact hB2.out.drew) (hb8.mono hB2.out.size); clear hb8)
            all_goals (try go_wp2_with fail)
            all_goals
              go_ret
              exact ⟨ret_bool HRR.out.symm, HB8.out⟩
          | true =>
            rw [hco] at HCC
            have HCO := Lib.hid hco
            clear hco
            go_wp2_with fail
            go_region_with (go_at_call 21; (with_reducible refine (HCC.out _).mono ?_); rintro e w8 ⟨rfl, hb8⟩; have HB8 : Hid (Below w.heap.size w w8) := Below.trans (by first | exact hB2.out | exact hB2.out.drew) (hb8.mono hB2.out.size); clear hb8)
            all_goals (try go_wp2_with fail)
            all_goals
              go_roundw
              case rel =>
                refine ⟨k + 1, by omega, by go_num, HB8.out, fun k' a b h h1 h2 => ?_⟩
                rcases Nat.lt_or_ge k' k with h3 | h3
                · exact hP2.out k' a b h3 h1 h2
                · obtain rfl : k' = k := by omega
                  rw [HU.out] at h1; rw [HV.out] at h2
                  obtain rfl := Option.some.inj h1
                  obtain rfl := Option.some.inj h2
                  exact HCO.out
              case measure => simp [intOf]; omega
        · have hq : ¬ (k : Int) ≤ (i : Int) := by omega
          go_wp2_with fail
          go_roundw
          case rel =>
            refine ⟨i + 1, by omega, by go_num, hB2.out, fun i' k' a b h h1 h2 h3 => ?_⟩
            rcases Nat.lt_or_ge i' i with h4 | h4
            · exact hP.out i' k' a b h4 h1 h2 h3
            · obtain rfl : i' = i := by omega
              exact hP2.out k' a b (by omega) h1 h2
          case measure => simp [intOf]; omega
    · obtain rfl : i = ss.length := by omega
      have HRR : Hid (R = true) := HYES.out fun i' k a b h1 h2 h3 => hP.out i' k a b (List.getElem?_eq_some_iff.1 h1).1 h1 h2 h3
      go_wp2_with fail
      go_ret
      exact ⟨ret_bool HRR.out.symm, hB.out⟩

end Go.Proofs.YtopmkddmllmecaaGreatDoor
