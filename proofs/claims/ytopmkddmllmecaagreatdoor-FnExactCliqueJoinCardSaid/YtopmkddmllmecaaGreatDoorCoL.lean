/- Trees of joints, and the model's l5Nodes. -/
import Derived.Test.YtopmkddmllmecaaGreatDoorCoJ
set_option linter.unusedSimpArgs false
set_option linter.unusedVariables false
namespace Rt

mutual
/-- What l5Nodes counts. -/
def jn : Tree → Nat
  | .atom _ => 1
  | .list [] => 1
  | .list (_ :: l) => 1 + jns l
def jns : List Tree → Nat
  | [] => 0
  | t :: l => jn t + jns l
end

theorem jn_jtree : ∀ (j : Jt), jn (jtree j) = jsize j
  | .un => by simp [jtree, jn, jsize]
  | .at s => by simp [jtree, jn, jsize]
  | .lam j => by simp [jtree, jn, jns, jsize, jn_jtree j]
  | .app j k => by simp [jtree, jn, jns, jsize, jn_jtree j, jn_jtree k]; omega

theorem nodes_jtree : ∀ (j : Jt), nodes (jtree j) ≤ 3 * jsize j
  | .un => by simp [jtree, nodes, jsize]
  | .at s => by simp [jtree, nodes, jsize]
  | .lam j => by have := nodes_jtree j; simp [jtree, nodes, nodesL, jsize]; omega
  | .app j k => by have := nodes_jtree j; have := nodes_jtree k; simp [jtree, nodes, nodesL, jsize]; omega

mutual
theorem jn_le : ∀ (t : Tree), jn t ≤ nodes t
  | .atom _ => by simp [jn, nodes]
  | .list [] => by simp [jn, nodes, nodesL]
  | .list (a :: l) => by have := jns_le l; simp [jn, nodes, nodesL]; omega
theorem jns_le : ∀ (l : List Tree), jns l ≤ nodesL l
  | [] => by simp [jns, nodesL]
  | t :: l => by have := jn_le t; have := jns_le l; simp [jns, nodesL]; omega
end

theorem jns_take : ∀ (l : List Tree) (k : Nat) (t : Tree), l[k]? = some t → jns (l.take (k + 1)) = jns (l.take k) + jn t
  | [], k, t, h => by simp at h
  | u :: l, 0, t, h => by simp at h; subst h; simp [jns]
  | u :: l, k + 1, t, h => by
    have := jns_take l k t (by simpa using h)
    rw [List.take_succ_cons, jns, this, List.take_succ_cons, jns]; omega

theorem jns_take_le (l : List Tree) (k : Nat) : jns (l.take k) ≤ jns l := by
  induction l generalizing k with
  | nil => simp
  | cons u l ih =>
    cases k with
    | zero => simp [jns]
    | succ k => rw [List.take_succ_cons, jns, jns]; have := ih k; omega

mutual
theorem jadd_wf : ∀ (t : Term) (m : Nat) (j j' : Jt), ok m t = true → wfT (jtree j) = true → jadd t j = some j' → wfT (jtree j') = true
  | .nm s, m, .un, j', ho, hj, e => by
    simp only [jadd, Option.some.injEq] at e; subst e
    exact wf_ofTerm m _ ho
  | .ix n, m, .un, j', ho, hj, e => by
    simp only [jadd, Option.some.injEq] at e; subst e
    exact wf_ofTerm m _ ho
  | .lam t, m, .un, j', ho, hj, e => by
    rw [jadd, Option.map_eq_some_iff] at e
    obtain ⟨j1, e1, rfl⟩ := e
    rw [ok] at ho
    have := jadd_wf t (m + 1) .un j1 ho (by decide) e1
    simp [jtree, wfT, wfL, this, sLam]; decide
  | .app t b, m, .un, j', ho, hj, e => by
    rw [jadd] at e
    rw [ok, Bool.and_eq_true] at ho
    cases e1 : jadd t .un with
    | none => rw [e1] at e; simp at e
    | some j1 =>
      rw [e1] at e
      simp only at e
      rw [Option.map_eq_some_iff] at e
      obtain ⟨k1, e2, rfl⟩ := e
      have h1 := jadd_wf t m .un j1 ho.1 (by decide) e1
      have h2 := jadds_wf b m .un k1 ho.2 (by decide) e2
      simp [jtree, wfT, wfL, h1, h2, sApp]; decide
  | .nm s, m, .at a, j', ho, hj, e => by
    rw [jadd] at e
    split at e
    · simp only [Option.some.injEq] at e; subst e; exact hj
    · simp at e
  | .ix s, m, .at a, j', ho, hj, e => by
    rw [jadd] at e
    split at e
    · simp only [Option.some.injEq] at e; subst e; exact hj
    · simp at e
  | .lam t, m, .lam j, j', ho, hj, e => by
    rw [jadd, Option.map_eq_some_iff] at e
    obtain ⟨j1, e1, rfl⟩ := e
    rw [ok] at ho
    have hj2 : wfT (jtree j) = true := by simp [jtree, wfT, wfL] at hj; exact hj.2
    have := jadd_wf t (m + 1) j j1 ho hj2 e1
    simp [jtree, wfT, wfL, this, sLam]; decide
  | .app t b, m, .app j k, j', ho, hj, e => by
    rw [jadd] at e
    rw [ok, Bool.and_eq_true] at ho
    have hj2 : wfT (jtree j) = true ∧ wfT (jtree k) = true := by simp [jtree, wfT, wfL] at hj; exact ⟨hj.2.1, hj.2.2⟩
    cases e1 : jadd t j with
    | none => rw [e1] at e; simp at e
    | some j1 =>
      rw [e1] at e
      simp only at e
      rw [Option.map_eq_some_iff] at e
      obtain ⟨k1, e2, rfl⟩ := e
      have h1 := jadd_wf t m j j1 ho.1 hj2.1 e1
      have h2 := jadds_wf b m k k1 ho.2 hj2.2 e2
      simp [jtree, wfT, wfL, h1, h2, sApp]; decide
  | .nm s, m, .lam j, j', _, _, e => by simp [jadd] at e
  | .nm s, m, .app j k, j', _, _, e => by simp [jadd] at e
  | .ix s, m, .lam j, j', _, _, e => by simp [jadd] at e
  | .ix s, m, .app j k, j', _, _, e => by simp [jadd] at e
  | .lam t, m, .at a, j', _, _, e => by simp [jadd] at e
  | .lam t, m, .app j k, j', _, _, e => by simp [jadd] at e
  | .app t b, m, .at a, j', _, _, e => by simp [jadd] at e
  | .app t b, m, .lam j, j', _, _, e => by simp [jadd] at e
theorem jadds_wf : ∀ (ts : List Term) (m : Nat) (j j' : Jt), oks m ts = true → wfT (jtree j) = true → jadds ts j = some j' → wfT (jtree j') = true
  | [], m, j, j', _, hj, e => by simp only [jadds, Option.some.injEq] at e; subst e; exact hj
  | t :: ts, m, j, j', ho, hj, e => by
    rw [jadds] at e
    rw [oks, Bool.and_eq_true] at ho
    cases e1 : jadd t j with
    | none => rw [e1] at e; simp at e
    | some j1 =>
      rw [e1] at e
      exact jadds_wf ts m j1 j' ho.2 (jadd_wf t m j j1 ho.1 hj e1) e
end

end Rt

namespace Go.Proofs.YtopmkddmllmecaaGreatDoor
open Go.RowKit Rt Go.Lib

theorem joinT_wf (ss : List ByteArray) (j : Jt) (h : joinT ss = some j) : wfT (jtree j) = true := by
  unfold joinT at h
  cases e : termsOf ss with
  | none => rw [e] at h; cases h
  | some ts =>
    rw [e] at h
    exact jadds_wf ts 0 .un j (termsOf_ok ss ts e).2.1 (by decide) h

set_option maxHeartbeats 1600000 in
set_option maxRecDepth 100000 in
theorem l5Nodes_any (n : Nat) : ∀ (t : Tree) (v : Value) (w : World), nodes t ≤ n → n ≤ 1000000000 → RepS w t v →
    Calls Tryz.prog 65 #[v] w fun e w' => e = .returned (.int .i64 (jn t)) ∧ Below w.heap.size w w' := by
  induction n with
  | zero => intro t v w h; have := nodes_pos t; omega
  | succ n ih =>
    intro t v w hn hm hr
    have leaf : ∀ u : B, v = .agg #[st u, .slice none 0 0] → jn t = 1 → Calls Tryz.prog 65 #[v] w fun e w' => e = .returned (.int .i64 (jn t)) ∧ Below w.heap.size w w' := by
      intro u hv h1
      rw [h1]
      subst hv
      rw [st_eq]
      clear hr ih
      go_enter Tryz.func65, Tryz.ntmps65
      go_wp2_with fail
      have hX := Blk.new w 84 #[.string ⟨u.toArray⟩, .slice none 0 0]
      have hb := below_one w (.cells #[.string ⟨u.toArray⟩, .slice none 0 0] 84)
      generalize w.alloc (.cells #[.string ⟨u.toArray⟩, .slice none 0 0] 84) = W at *
      obtain ⟨q0, q1, -, -⟩ := blk_cells hX
      have HB := Lib.hid hb
      clear hX hb
      go_loop [3, 4] (fun z i => z = .int .i64 1 ∧ i = .int .i64 1) (fun _ _ => 0)
      case atStart => exact ⟨rfl, rfl⟩
      case round =>
        obtain ⟨rfl, rfl⟩ := hrel
        go_wp2_with fail
        go_ret
        exact ⟨rfl, HB.out⟩
    cases t with
    | atom s => exact leaf s (by rw [RepS] at hr; exact hr) (by simp [jn])
    | list l =>
      rw [RepS] at hr
      obtain ⟨b, c, xs, rfl, h1, h2, hc, hf⟩ := hr
      have HC := Lib.hid hc
      have HF := Lib.hid hf
      have IH := Lib.hid ih
      unfold maxLen at h2
      rw [nodes] at hn
      have hln : ∀ k u, l[k]? = some u → nodes u ≤ nodesL l := fun k u h => nodesL_at l k u h
      have HLN := Lib.hid hln
      clear hc hf ih leaf hln
      rw [st_eq]
      cases l with
      | nil =>
        go_enter Tryz.func65, Tryz.ntmps65
        go_wp2_with fail
        have hX := Blk.new w 84 #[.string ⟨#[]⟩, .slice (some ⟨b, 0, none⟩) 0 c]
        have hb := below_one w (.cells #[.string ⟨#[]⟩, .slice (some ⟨b, 0, none⟩) 0 c] 84)
        generalize w.alloc (.cells #[.string ⟨#[]⟩, .slice (some ⟨b, 0, none⟩) 0 c] 84) = W at *
        obtain ⟨q0, q1, -, -⟩ := blk_cells hX
        have HB := Lib.hid hb
        clear hX hb
        go_loop [3, 4] (fun z i => z = .int .i64 1 ∧ i = .int .i64 1) (fun _ _ => 0)
        case atStart => exact ⟨rfl, rfl⟩
        case round =>
          obtain ⟨rfl, rfl⟩ := hrel
          go_wp2_with fail
          go_ret
          exact ⟨by simp [jn], HB.out⟩
      | cons a l =>
        have HJ : Hid (jn (.list (a :: l)) = 1 + jns l) := by show _ = _; rw [jn]
        have hjl := jns_le l
        rw [nodesL] at hn
        have hnl : 1 + jns l ≤ 1000000000 := by omega
        have hM : l.length + 1 ≤ c := by simpa using h1
        have HTK : Hid (∀ k u, l[k]? = some u → jns (l.take (k + 1)) = jns (l.take k) + jn u) := fun k u h => jns_take l k u h
        have HLE : Hid (∀ k, jns (l.take k) ≤ jns l) := fun k => jns_take_le l k
        have HALL : Hid (jns (l.take l.length) = jns l) := by show _ = _; rw [List.take_length]
        generalize jn (.list (a :: l)) = R at *
        go_enter Tryz.func65, Tryz.ntmps65
        go_wp2_with fail
        have hX := Blk.new w 84 #[.string ⟨#[]⟩, .slice (some ⟨b, 0, none⟩) (l.length + 1) c]
        have hb := below_one w (.cells #[.string ⟨#[]⟩, .slice (some ⟨b, 0, none⟩) (l.length + 1) c] 84)
        generalize w.alloc (.cells #[.string ⟨#[]⟩, .slice (some ⟨b, 0, none⟩) (l.length + 1) c] 84) = W at *
        have hsz : w.heap.size + 1 ≤ W.heap.size := hX.lt
        have HX : Hid (∀ V, Below W.heap.size W V → V.cell? ⟨w.heap.size, 1, none⟩ = some (.slice (some ⟨b, 0, none⟩) (l.length + 1) c)) := fun V hV => (blk_cells (hX.below hV hX.lt)).2.1
        have HB := Lib.hid hb
        clear hX hb
        go_loopw [3, 4] (fun z i wr => ∃ (k : Nat) (s : Nat), k ≤ l.length ∧ i = .int .i64 (k + 1) ∧ z = .int .i64 s ∧ Hid (s = 1 + jns (l.take k)) ∧ Hid (Below W.heap.size W wr)) (fun _ i _ => l.length + 1 - (intOf i).toNat)
        case atStart => exact ⟨0, 1, Nat.zero_le _, rfl, rfl, by show _ = _; simp [jns], Below.refl _ _⟩
        case round =>
          obtain ⟨k, s, hk, rfl, rfl, hS, hB⟩ := hrel
          have q1 := HX.out wr hB.out
          have hs1 : s ≤ 1000000000 := by have := hS.out; have := HLE.out k; omega
          by_cases hlt : k < l.length
          · obtain ⟨u, hu⟩ : ∃ u, l[k]? = some u := ⟨l[k], List.getElem?_eq_getElem hlt⟩
            obtain ⟨x, y, e1, e2, hru⟩ := RepF.at _ xs (k + 1) u HF.out (by simpa using hu)
            have hKr := (below_keeps HB.out).trans (below_keeps hB.out)
            have d1 := hKr _ _ (HC.out ((k + 1) * 2) x e1)
            have d2 := hKr _ _ (HC.out ((k + 1) * 2 + 1) y e2)
            have hnu := HLN.out (k + 1) u (by simpa using hu)
            have hju := jn_le u
            have HST := Lib.hid (HTK.out k u hu)
            have hle2 := HLE.out (k + 1)
            have hs2 : s + jn u ≤ 1000000000 := by have := hS.out; have := HST.out; omega
            have HCC := Lib.hid (IH.out u _ wr (by rw [nodesL] at hnu; omega) (by omega) (hru.keep hKr))
            clear e1 e2 hru hu hKr hnu hju hle2
            go_wp2_with fail
            refine HCC.out.mono ?_
            rintro e w4 ⟨rfl, hb4⟩
            have HB4 : Hid (Below W.heap.size W w4) := hB.out.trans (hb4.mono hB.out.size)
            clear hb4
            go_wp2_with fail
            go_roundw
            case rel => exact ⟨k + 1, s + jn u, by omega, by go_num, by go_num, by show _ = _; rw [HST.out, hS.out]; omega, HB4.out⟩
            case measure => simp [intOf]; omega
          · obtain rfl : k = l.length := by omega
            have HF2 : Hid (R = s) := by show _ = _; rw [HJ.out, hS.out, HALL.out]
            go_wp2_with fail
            go_ret
            exact ⟨ret_int (by rw [HF2.out]), HB.out.trans (hB.out.mono HB.out.size)⟩

end Go.Proofs.YtopmkddmllmecaaGreatDoor
