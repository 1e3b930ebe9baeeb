/- The program's joints: size and text. -/
import Derived.Test.YtopmkddmllmecaaGreatDoorCoF
import Derived.Deep.RegionWith
import Derived.Deep.DeepCutAuto
import Derived.Handy
set_option linter.unusedSimpArgs false
set_option linter.unusedVariables false
namespace Go.Proofs.YtopmkddmllmecaaGreatDoor
open Go.RowKit Rt Go.Lib

theorem call_size (j : Jt) (w : World) : Sem.run Tryz.prog (callFunc (sizeF j) #[jag j]) w = .ok (.enter (sizeF j) #[jag j]) w := by
  cases j <;> kernel_rfl
theorem call_text (j : Jt) (w : World) : Sem.run Tryz.prog (callFunc (textF j) #[jag j]) w = .ok (.enter (textF j) #[jag j]) w := by
  cases j <;> kernel_rfl
theorem ba_eq {x y : ByteArray} (h : x.data.toList = y.data.toList) : x = y := by
  cases x; cases y
  simp only [ByteArray.mk.injEq]
  exact Array.toList_inj.1 h

def SizeSaid (j : Jt) : Prop := ∀ (w : World), Calls Tryz.prog (sizeF j) #[jag j] w fun e w' => e = .returned (.int .i64 (jsize j)) ∧ Below w.heap.size w w'

theorem jsize_pos (j : Jt) : 1 ≤ jsize j := by cases j <;> simp [jsize] <;> omega

set_option maxHeartbeats 1600000 in
set_option maxRecDepth 100000 in
theorem size_any : ∀ (j : Jt), jsize j ≤ 1000000000 → SizeSaid j
  | .un, _ => by
    intro w
    show Calls Tryz.prog 228 #[.agg #[]] w _
    go_enter Tryz.func228, Tryz.ntmps228
    go_wp2_with fail
    go_ret
    exact ⟨rfl, by go_grown⟩
  | .at s, _ => by
    intro w
    show Calls Tryz.prog 242 #[.agg #[st s]] w _
    rw [st_eq]
    go_enter Tryz.func242, Tryz.ntmps242
    go_wp2_with fail
    go_ret
    exact ⟨rfl, by go_grown⟩
  | .lam j, h => by
    rw [jsize] at h
    have IH : Hid (∀ (w : World), Calls Tryz.prog (sizeF j) #[jag j] w fun e w' => e = .returned (.int .i64 (jsize j)) ∧ Below w.heap.size w w') := size_any j (by omega)
    have hm := meth_size j
    have hc := call_size j
    intro w
    show Calls Tryz.prog 237 #[.agg #[jval j]] w _
    rw [jval_eq j, jsize]
    generalize jsize j = z at *
    have e2 : IntKind.i64.wrap (1 + (z : Int)) = 1 + (z : Int) := IntWalk.i64_in _ (by omega)
    go_enter Tryz.func237, Tryz.ntmps237
    go_wp2_with fail
    refine (IH.out _).mono ?_
    rintro e w2 ⟨rfl, hb2⟩
    have HB2 : Hid (Below w.heap.size w w2) := Below.trans (by go_grown) (hb2.mono (by simp))
    clear hb2
    go_wp2_with fail
    go_ret
    exact ⟨ret_int (by rw [Int.natCast_add]; rfl), HB2.out⟩
  | .app j k, h => by
    rw [jsize] at h
    have p1 := jsize_pos j
    have p2 := jsize_pos k
    have IH1 : Hid (∀ (w : World), Calls Tryz.prog (sizeF j) #[jag j] w fun e w' => e = .returned (.int .i64 (jsize j)) ∧ Below w.heap.size w w') := size_any j (by omega)
    have IH2 : Hid (∀ (w : World), Calls Tryz.prog (sizeF k) #[jag k] w fun e w' => e = .returned (.int .i64 (jsize k)) ∧ Below w.heap.size w w') := size_any k (by omega)
    have hm1 := meth_size j
    have hc1 := call_size j
    have hm2 := meth_size k
    have hc2 := call_size k
    intro w
    show Calls Tryz.prog 239 #[.agg #[jval j, jval k]] w _
    rw [jval_eq j, jval_eq k, jsize]
    generalize jsize j = z at *
    generalize jsize k = y at *
    have hbox := Blk.new w 262 #[.iface (jty j) (jag j), .iface (jty k) (jag k)]
    have HX1 : Hid (∀ W, Below (w.heap.size + 1) (w.alloc (.cells #[.iface (jty j) (jag j), .iface (jty k) (jag k)] 262)) W → W.cell? ⟨w.heap.size, 0, none⟩ = some (.iface (jty j) (jag j)) ∧ W.cell? ⟨w.heap.size, 1, none⟩ = some (.iface (jty k) (jag k))) := fun W hW => ⟨(blk_cells (hbox.below hW (Nat.lt_succ_self _))).1, (blk_cells (hbox.below hW (Nat.lt_succ_self _))).2.1⟩
    have e1 : (((1 : Int) + (z : Int)) : Int) = ((1 + z : Nat) : Int) := by omega
    have e2 : IntKind.i64.wrap (1 + (z : Int)) = 1 + (z : Int) := IntWalk.i64_in _ (by omega)
    have e3 : IntKind.i64.wrap (1 + (z : Int) + (y : Int)) = 1 + (z : Int) + (y : Int) := IntWalk.i64_in _ (by omega)
    clear hbox e1
    go_enter Tryz.func239, Tryz.ntmps239
    go_wp2_with fail
    go_region_with (first
      | ((with_reducible refine (IH1.out _).mono ?_); rintro e w2 ⟨rfl, hb2⟩; have HB2 : Hid (Below (w.heap.size + 1) (w.alloc (.cells #[.iface (jty j) (jag j), .iface (jty k) (jag k)] 262)) w2) := Below.trans (by go_grown) (hb2.mono (by simp)); obtain ⟨x0, x1⟩ := HX1.out w2 HB2.out; clear hb2)
      | ((with_reducible refine (IH2.out _).mono ?_); rintro e w3 ⟨rfl, hb3⟩; have HB3 : Hid (Below w.heap.size w w3) := Below.trans (below_one w _) (Below.trans (HB2.out.mono (by simp)) (hb3.mono (by have := HB2.out.size; simp at this; omega))); clear hb3))
    all_goals (try go_wp2_with fail)
    all_goals
      go_ret
      exact ⟨ret_int (by rw [Int.natCast_add, Int.natCast_add]; rfl), HB3.out⟩

set_option maxHeartbeats 1600000 in
set_option maxRecDepth 100000 in
theorem text_any : ∀ (j : Jt), (jtext j).length ≤ 1000000 → ∀ (w : World), Calls Tryz.prog (textF j) #[jag j] w fun e w' => e = .returned (st (jtext j)) ∧ Below w.heap.size w w'
  | .un, _ => by
    intro w
    show Calls Tryz.prog 229 #[.agg #[]] w _
    go_enter Tryz.func229, Tryz.ntmps229
    go_wp2_with fail
    go_ret
    exact ⟨rfl, by go_grown⟩
  | .at s, _ => by
    intro w
    show Calls Tryz.prog 243 #[.agg #[st s]] w _
    rw [st_eq]
    go_enter Tryz.func243, Tryz.ntmps243
    go_wp2_with fail
    go_ret
    exact ⟨rfl, by go_grown⟩
  | .lam j, h => by
    have ej : jtext (.lam j) = [40, 108, 97, 109, 32] ++ jtext j ++ [41] := by
      simp [jtext, jtree, textT, textL, sLam]
    have hl : (jtext j).length ≤ 1000000 := by rw [ej] at h; simp at h; omega
    have hl2 : 5 + (jtext j).length + 1 ≤ 1000000 := by rw [ej] at h; simp at h; omega
    have IH : Hid (∀ (w : World), Calls Tryz.prog (textF j) #[jag j] w fun e w' => e = .returned (st (jtext j)) ∧ Below w.heap.size w w') := text_any j hl
    have hm := meth_text j
    have hc := call_text j
    intro w
    show Calls Tryz.prog 238 #[.agg #[jval j]] w _
    rw [jval_eq j, ej]
    clear h ej
    generalize jtext j = z at *
    have HE : Hid ((⟨#[40, 108, 97, 109, 32]⟩ : ByteArray) ++ ⟨z.toArray⟩ ++ ⟨#[41]⟩ = ⟨([40, 108, 97, 109, 32] ++ z ++ [41]).toArray⟩) := ba_eq (by simp)
    have n1 : ¬ 9223372036854775807 < 5 + z.length := by omega
    have n2 : ¬ 9223372036854775807 < 5 + z.length + 1 := by omega
    go_enter Tryz.func238, Tryz.ntmps238
    go_wp2_with fail
    refine (IH.out _).mono ?_
    rintro e w2 ⟨rfl, hb2⟩
    rw [st_eq]
    have HB2 : Hid (Below w.heap.size w w2) := Below.trans (by go_grown) (hb2.mono (by simp))
    clear hb2
    go_wp2_with fail
    all_goals
      go_ret
      exact ⟨congrArg (fun x => Ending.returned (.string x)) HE.out, HB2.out⟩
  | .app j k, h => by
    have ej : jtext (.app j k) = [40, 97, 112, 112, 32] ++ jtext j ++ [32] ++ jtext k ++ [41] := by
      simp [jtext, jtree, textT, textL, sApp]
    have hl : 5 + (jtext j).length + 1 + (jtext k).length + 1 ≤ 1000000 := by rw [ej] at h; simp at h; omega
    have IH1 : Hid (∀ (w : World), Calls Tryz.prog (textF j) #[jag j] w fun e w' => e = .returned (st (jtext j)) ∧ Below w.heap.size w w') := text_any j (by omega)
    have IH2 : Hid (∀ (w : World), Calls Tryz.prog (textF k) #[jag k] w fun e w' => e = .returned (st (jtext k)) ∧ Below w.heap.size w w') := text_any k (by omega)
    have hm1 := meth_text j
    have hc1 := call_text j
    have hm2 := meth_text k
    have hc2 := call_text k
    intro w
    show Calls Tryz.prog 240 #[.agg #[jval j, jval k]] w _
    rw [jval_eq j, jval_eq k, ej]
    clear h ej
    generalize jtext j = z at *
    generalize jtext k = y at *
    have n1 : ¬ 9223372036854775807 < 5 + z.length := by omega
    have n2 : ¬ 9223372036854775807 < 5 + z.length + 1 := by omega
    have n3 : ¬ 9223372036854775807 < 5 + z.length + 1 + y.length := by omega
    have n4 : ¬ 9223372036854775807 < 5 + z.length + 1 + y.length + 1 := by omega
    have HE : Hid ((⟨#[40, 97, 112, 112, 32]⟩ : ByteArray) ++ ⟨z.toArray⟩ ++ ⟨#[32]⟩ ++ ⟨y.toArray⟩ ++ ⟨#[41]⟩ = ⟨([40, 97, 112, 112, 32] ++ z ++ [32] ++ y ++ [41]).toArray⟩) := ba_eq (by simp)
    have hbox := Blk.new w 262 #[.iface (jty j) (jag j), .iface (jty k) (jag k)]
    have HX1 : Hid (∀ W, Below (w.heap.size + 1) (w.alloc (.cells #[.iface (jty j) (jag j), .iface (jty k) (jag k)] 262)) W → W.cell? ⟨w.heap.size, 0, none⟩ = some (.iface (jty j) (jag j)) ∧ W.cell? ⟨w.heap.size, 1, none⟩ = some (.iface (jty k) (jag k))) := fun W hW => ⟨(blk_cells (hbox.below hW (Nat.lt_succ_self _))).1, (blk_cells (hbox.below hW (Nat.lt_succ_self _))).2.1⟩
    clear hbox
    go_enter Tryz.func240, Tryz.ntmps240
    go_wp2_with fail
    go_region_with (first
      | ((with_reducible refine (IH1.out _).mono ?_); rintro e w2 ⟨rfl, hb2⟩; have HB2 : Hid (Below (w.heap.size + 1) (w.alloc (.cells #[.iface (jty j) (jag j), .iface (jty k) (jag k)] 262)) w2) := Below.trans (by go_grown) (hb2.mono (by simp)); obtain ⟨x0, x1⟩ := HX1.out w2 HB2.out; clear hb2; rw [st_eq])
      | ((with_reducible refine (IH2.out _).mono ?_); rintro e w3 ⟨rfl, hb3⟩; have HB3 : Hid (Below w.heap.size w w3) := Below.trans (below_one w _) (Below.trans (HB2.out.mono (by simp)) (hb3.mono (by have := HB2.out.size; simp at this; omega))); clear hb3; rw [st_eq]))
    all_goals (try go_wp2_with fail)
    all_goals
      go_ret
      exact ⟨congrArg (fun x => Ending.returned (.string x)) HE.out, HB3.out⟩

theorem jadd_un_lam (t : Term) : jadd (.lam t) .un = jadd (.lam t) (.lam .un) := by rw [jadd, jadd]
theorem jadd_un_app (t : Term) (l : List Term) : jadd (.app t l) .un = jadd (.app t l) (.app .un .un) := by rw [jadd, jadd]
theorem jadd_un_atom (t : Term) (s : B) (h : atomT t = some s) : jadd t .un = some (.at (text t)) := by
  rw [text_atom t s h]
  cases t with
  | nm a => simpa [jadd, atomT] using h
  | ix n => simpa [jadd, atomT] using h
  | lam t => simp [atomT] at h
  | app t l => simp [atomT] at h

set_option maxHeartbeats 1600000 in
set_option maxRecDepth 100000 in
theorem coh_un (t : Term) (h2 : kindOf t = 2 → CohSaid t (.lam .un)) (h3 : kindOf t = 3 → CohSaid t (.app .un .un)) : CohSaid t .un := by
  intro F m v w hj ho hr
  have HR := Lib.hid hr
  obtain ⟨b, i, p, l, rfl, h6, -⟩ := RepPF.head _ _ hr
  obtain ⟨c0, c1, -, -, -, -, -, -⟩ := h6
  have hlt : b < w.heap.size := World.block_lt_of_cell? w _ c0
  have HRB : Hid (∀ W, Below w.heap.size w W → RepPF F W t (.pointer (some ⟨b, 0, none⟩))) := fun W hW => RepPF.move (fun k _ hk => hW.block k hk) (fun k hk _ => hk) _ _ HR.out
  have HO := Lib.hid ho
  have HD : Hid (∀ r, jadd t .un = r → kindOf t = 2 → jadd t (.lam .un) = r) := fun r h hk => by
    cases t with
    | lam t => rw [← jadd_un_lam]; exact h
    | nm s => simp [kindOf] at hk
    | ix s => simp [kindOf] at hk
    | app t l => simp [kindOf] at hk
  have HE : Hid (∀ r, jadd t .un = r → kindOf t = 3 → jadd t (.app .un .un) = r) := fun r h hk => by
    cases t with
    | app t l => rw [← jadd_un_app]; exact h
    | nm s => simp [kindOf] at hk
    | ix s => simp [kindOf] at hk
    | lam t => simp [kindOf] at hk
  clear hr ho
  show Calls Tryz.prog 227 #[.agg #[], _] w _
  by_cases k2 : kindOf t = 2
  · have H2 : Hid (∀ (W : World), Below w.heap.size w W → Calls Tryz.prog 230 #[.agg #[.iface 127 (.agg #[])], .pointer (some ⟨b, 0, none⟩)] W (CohPost W (jadd t .un))) := fun W hW => by
      have := h2 k2 F m _ W trivial HO.out (HRB.out W hW)
      rw [HD.out _ rfl k2] at this
      exact this
    rw [k2] at c0
    clear h2 h3 k2 HD HE HR
    generalize jadd t .un = R at *
    go_enter Tryz.func227, Tryz.ntmps227
    go_wp2_with fail
    refine (H2.out _ (by go_grown)).mono ?_
    rintro e w2 ⟨hb2, j2, o2, rfl, hr2⟩
    have HB2 : Hid (Below w.heap.size w w2) := Below.trans (by go_grown) (hb2.mono (by simp))
    have HR2 := Lib.hid hr2
    clear hb2 hr2
    go_wp2_with fail
    all_goals
      refine bodyPost_ret (v := .tuple #[.iface (jty j2) (jag j2), .bool o2]) ?_ rfl ?_
      · simp [results, Tryz.results227, go_sem]
      · exact ⟨HB2.out, _, _, rfl, HR2.out⟩
  · by_cases k3 : kindOf t = 3
    · have H3 : Hid (∀ (W : World), Below w.heap.size w W → Calls Tryz.prog 231 #[.agg #[.iface 127 (.agg #[]), .iface 127 (.agg #[])], .pointer (some ⟨b, 0, none⟩)] W (CohPost W (jadd t .un))) := fun W hW => by
        have := h3 k3 F m _ W ⟨trivial, trivial⟩ HO.out (HRB.out W hW)
        rw [HE.out _ rfl k3] at this
        exact this
      rw [k3] at c0
      clear h2 h3 k2 k3 HD HE HR
      generalize jadd t .un = R at *
      go_enter Tryz.func227, Tryz.ntmps227
      go_wp2_with fail
      refine (H3.out _ (by go_grown)).mono ?_
      rintro e w2 ⟨hb2, j2, o2, rfl, hr2⟩
      have HB2 : Hid (Below w.heap.size w w2) := Below.trans (by go_grown) (hb2.mono (by simp))
      have HR2 := Lib.hid hr2
      clear hb2 hr2
      go_wp2_with fail
      all_goals
        refine bodyPost_ret (v := .tuple #[.iface (jty j2) (jag j2), .bool o2]) ?_ rfl ?_
        · simp [results, Tryz.results227, go_sem]
        · exact ⟨HB2.out, _, _, rfl, HR2.out⟩
    · have ha : ∃ s, atomT t = some s := by
        cases t with
        | nm a => exact ⟨_, rfl⟩
        | ix n => exact ⟨_, rfl⟩
        | lam t => simp [kindOf] at k2
        | app t l => simp [kindOf] at k3
      obtain ⟨s, ha⟩ := ha
      have HA := Lib.hid (jadd_un_atom t s ha)
      rw [st_eq] at c1
      clear h2 h3 ha HD HE HR
      have k2' : ((kindOf t : Int) == 2) = false := by simpa using (by omega : (kindOf t : Int) ≠ 2)
      have k3' : ((kindOf t : Int) == 3) = false := by simpa using (by omega : (kindOf t : Int) ≠ 3)
      generalize jadd t .un = R at *
      generalize kindOf t = kd at *
      have d1 := cell_alloc c1
      go_enter Tryz.func227, Tryz.ntmps227
      go_wp2_with fail
      all_goals
        refine bodyPost_ret (v := .tuple #[.iface (jty (.at (text t))) (jag (.at (text t))), .bool true]) ?_ rfl ?_
        · simp [results, Tryz.results227, go_sem, jty, jag, st_eq]
        · exact ⟨by go_grown, _, _, rfl, fun _ => HA.out, by simp⟩

theorem sizes_len : ∀ (l : List Term), l.length ≤ sizes l
  | [] => by simp [sizes]
  | t :: l => by have := sizes_len l; have := size_pos t; simp only [sizes, List.length_cons]; omega

theorem sizes_mem {u : Term} : ∀ (l : List Term), u ∈ l → size u ≤ sizes l
  | [], h => by simp at h
  | t :: l, h => by
    rw [sizes]
    rcases List.mem_cons.1 h with rfl | h
    · omega
    · have := sizes_mem l h; omega

theorem coh_any (n : Nat) (hn : n ≤ 1000000) : ∀ (t : Term), size t ≤ n → ∀ (j : Jt), CohSaid t j := by
  induction n with
  | zero => intro t h; have := size_pos t; omega
  | succ n ih =>
    have ih := ih (by omega)
    intro t h
    have hl : ∀ j, CohSaid t (.lam j) := fun j => by
      cases t with
      | lam t => exact coh_lam_yes t j (ih t (by rw [size] at h; omega) j)
      | nm s => exact coh_lam_no _ j (by simp [kindOf])
      | ix s => exact coh_lam_no _ j (by simp [kindOf])
      | app t l => exact coh_lam_no _ j (by simp [kindOf])
    have ha : ∀ j k, CohSaid t (.app j k) := fun j k => by
      cases t with
      | app t l =>
        rw [size] at h
        have h1 := sizes_len l
        exact coh_app_yes t l j k (by omega) (ih t (by omega) j) fun u hu k' => ih u (by have := sizes_mem l hu; omega) k'
      | nm s => exact coh_app_no _ j k (by simp [kindOf])
      | ix s => exact coh_app_no _ j k (by simp [kindOf])
      | lam t => exact coh_app_no _ j k (by simp [kindOf])
    intro j
    match j with
    | .un => exact coh_un t (fun _ => hl _) (fun _ => ha _ _)
    | .at s => exact coh_at t s
    | .lam j => exact hl j
    | .app j k => exact ha j k

end Go.Proofs.YtopmkddmllmecaaGreatDoor
