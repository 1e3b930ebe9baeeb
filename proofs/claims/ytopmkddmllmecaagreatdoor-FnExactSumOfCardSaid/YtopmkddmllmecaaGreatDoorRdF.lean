/- Reading a text: how few terms more are in the pool. -/
import Derived.Test.YtopmkddmllmecaaGreatDoorImpZ
namespace Go.Proofs.YtopmkddmllmecaaGreatDoor
open Go.RowKit Rt Go.Lib
open Go.ChangeMaps Go.MapKept Go.Maps Go.WideMaps

mutual
theorem nodes_size : ∀ t : Term, nodes (ofTerm t) ≤ 4 * size t
  | .nm s => by simp [ofTerm, nodes, Rt.size]
  | .ix n => by simp [ofTerm, nodes, Rt.size]
  | .lam t => by have := nodes_size t; simp only [ofTerm, nodes, nodesL, Rt.size]; omega
  | .app t b => by have := nodes_size t; have := nodes_sizes b; simp only [ofTerm, nodes, nodesL, Rt.size]; omega
theorem nodes_sizes : ∀ b : List Term, nodesL (ofTerms b) ≤ 4 * sizes b
  | [] => by simp [ofTerms, nodesL, sizes]
  | t :: l => by have := nodes_size t; have := nodes_sizes l; simp only [ofTerms, nodesL, sizes]; omega
end

set_option maxHeartbeats 1600000 in
set_option maxRecDepth 100000 in
theorem readUnsorted_few (F : Nat → Prop) (p m n : Nat) (D : DataW Value) (s : ByteArray) (hs : s.size ≤ maxLen) (w : World) (hn : n ≤ 800000) (hP : Pool F w p m n D) :
    Calls Tryz.prog 92 #[.pointer (some ⟨p, 0, none⟩), .string s] w (PartPost F w p m n 300 ((loose s.data.toList).map sort)) := by
  have hmw : m + 1 ≤ w.heap.size := hP.map.lt
  have hpw : p + 1 ≤ w.heap.size := hP.plt
  generalize hr : (loose s.data.toList).map sort = r
  have HRT := Lib.hid (readText_any s hs w)
  cases hp : parse s.data.toList with
  | none =>
    have HR : Hid (r = none) := by show _ = _; rw [← hr, loose, hp]; rfl
    rw [hp] at HRT
    clear hr hp hP
    go_enter Tryz.func92, Tryz.ntmps92
    go_wp2_with (go_at_call 111; refine HRT.out.mono ?_; rintro e w1 ⟨hb, rfl⟩; have HB := Lib.hid hb; clear hb)
    all_goals
      refine bodyPost_ret (v := .tuple #[.pointer none, .bool false]) ?_ rfl ?_
      · simp [results, Tryz.results92, go_sem]
      · exact PartPost.no HR.out (below_grown HB.out _) rfl
  | some x =>
    obtain ⟨f1, f2, f3⟩ := parse_facts _ _ hp
    have f4 := nodes_text _ x (Nat.le_refl _) f1
    rw [hp] at HRT
    have HF : Hid (∀ (w1 : World) (v : Value), Below w.heap.size w w1 → RepXF (fun k => w.heap.size ≤ k) w1 x v →
        Calls Tryz.prog 112 #[.pointer (some ⟨p, 0, none⟩), v, .int .i64 0] w1 (PartPost F w p m n (nodes x) ((toTerm 0 x).map sort))) := by
      intro w1 v hb hv
      refine (partSaid (fun k => w.heap.size ≤ k) p m (nodes x) F x v 0 n D w1 (Nat.le_refl _) ⟨hv, by show ¬ w.heap.size ≤ m; omega, by omega, by omega⟩ (by omega) ?_).mono ?_
      · exact hP.go (hb.block p (by omega)) (hb.block m (by omega)) (fun k _ hk => hb.block k hk) (fun _ h _ => h) hP.far
      · intro e w2 h
        exact PartPost.elder (below_grown hb _) hP.far hmw h
    cases ht : toTerm 0 x with
    | none =>
      have HR : Hid (r = none) := by show _ = _; rw [← hr, loose, hp]; simp [ht]
      rw [ht] at HF
      clear hr hp hP ht
      go_enter Tryz.func92, Tryz.ntmps92
      go_wp2_with (first
        | (go_at_call 111; refine HRT.out.mono ?_; rintro e w1 ⟨hb, v, rfl, hv⟩; have HC := Lib.hid (HF.out w1 v hb hv); clear hb hv)
        | (go_at_call 112; refine HC.out.mono ?_; rintro e w2 ⟨hg2, rfl⟩; have HG := Lib.hid hg2; clear hg2))
      all_goals
        refine bodyPost_ret (v := .tuple #[.pointer none, .bool false]) ?_ rfl ?_
        · simp [results, Tryz.results92, go_sem]
        · exact PartPost.no HR.out HG.out rfl
    | some t =>
      rw [ht] at HF
      obtain ⟨_, _, _, _, f5⟩ := loose_facts _ _ _ hp ht
      have hnx : nodes x ≤ 4 * size t := by rw [(toTerm_some 0 x t ht).1]; exact nodes_size t
      by_cases hz : size t ≤ 60
      · have HR : Hid (r = some (sort t)) := by show _ = _; rw [← hr, loose, hp]; simp [ht, hz]
        have hq : decide ((60 : Int) < (size t : Int)) = false := by simp; omega
        have hq2 : decide ((size t : Int) ≤ 60) = true := by simp; omega
        clear hr hp hP ht
        go_enter Tryz.func92, Tryz.ntmps92
        go_wp2_with (first
          | (go_at_call 111; refine HRT.out.mono ?_; rintro e w1 ⟨hb, v, rfl, hv⟩; have HC := Lib.hid (HF.out w1 v hb hv); clear hb hv)
          | (go_at_call 112; refine HC.out.mono ?_; rintro e w2 ⟨hg2, v2, D2, n2, rfl, hn2, hv2, hp2⟩; obtain ⟨b, i, fp, q, rfl, h6, -⟩ := RepPF.head _ _ hv2; obtain ⟨-, -, c2, -⟩ := h6; rw [size_sort] at c2; have HG := Lib.hid hg2; have HV := Lib.hid hv2; have HP2 := Lib.hid hp2; clear hg2 hv2 hp2))
        all_goals
          refine bodyPost_ret (v := .tuple #[.pointer (some ⟨b, 0, none⟩), .bool true]) ?_ rfl ?_
          · simp [results, Tryz.results92, go_sem]
          · exact PartPost.yes HR.out HG.out rfl (by omega) HV.out HP2.out
      · have HR : Hid (r = none) := by show _ = _; rw [← hr, loose, hp]; simp [ht, hz]
        have hq : decide ((60 : Int) < (size t : Int)) = true := by simp; omega
        have hq2 : decide ((size t : Int) ≤ 60) = false := by simp; omega
        clear hr hp hP ht
        go_enter Tryz.func92, Tryz.ntmps92
        go_wp2_with (first
          | (go_at_call 111; refine HRT.out.mono ?_; rintro e w1 ⟨hb, v, rfl, hv⟩; have HC := Lib.hid (HF.out w1 v hb hv); clear hb hv)
          | (go_at_call 112; refine HC.out.mono ?_; rintro e w2 ⟨hg2, v2, D2, n2, rfl, hn2, hv2, hp2⟩; obtain ⟨b, i, fp, q, rfl, h6, -⟩ := RepPF.head _ _ hv2; obtain ⟨-, -, c2, -⟩ := h6; rw [size_sort] at c2; have HG := Lib.hid hg2; clear hg2 hv2 hp2))
        all_goals
          refine bodyPost_ret (v := .tuple #[.pointer none, .bool false]) ?_ rfl ?_
          · simp [results, Tryz.results92, go_sem]
          · exact PartPost.no HR.out HG.out rfl

set_option maxHeartbeats 1600000 in
set_option maxRecDepth 100000 in
theorem read_few (F : Nat → Prop) (p m n : Nat) (D : DataW Value) (s : ByteArray) (hs : s.size ≤ maxLen) (w : World) (hn : n ≤ 800000) (hP : Pool F w p m n D) :
    Calls Tryz.prog 70 #[.pointer (some ⟨p, 0, none⟩), .string s] w (PartPost F w p m n 300 (termOf s.data.toList)) := by
  have HU := Lib.hid (readUnsorted_few F p m n D s hs w hn hP)
  clear hP
  generalize hr : termOf s.data.toList = r
  cases hl : loose s.data.toList with
  | none =>
    have HR : Hid (r = none) := by show _ = _; rw [← hr, termOf, hl]
    rw [hl] at HU
    clear hr hl
    go_enter Tryz.func70, Tryz.ntmps70
    go_wp2_with (go_at_call 92; refine HU.out.mono ?_; rintro e w2 ⟨hg2, rfl⟩; have HG := Lib.hid hg2; clear hg2)
    all_goals
      refine bodyPost_ret (v := .tuple #[.pointer none, .bool false]) ?_ rfl ?_
      · simp [results, Tryz.results70, go_sem]
      · exact PartPost.no HR.out HG.out rfl
  | some t =>
    rw [hl] at HU
    by_cases he : text (sort t) = s.data.toList
    · have ht : termOf s.data.toList = some t := by rw [termOf, hl]; simp [he]
      have hst := (termOf_sorted _ _ ht).1
      have HR : Hid (r = some t) := by show _ = _; rw [← hr, ht]
      have HS := Lib.hid hst
      have hq1 : (text (sort t) == s.toList) = true := by rw [ByteArray.toList_eq, he]; simp
      have hq2 : (text (sort t) != s.toList) = false := by rw [ByteArray.toList_eq, he]; simp
      clear hr hl ht he hst
      go_enter Tryz.func70, Tryz.ntmps70
      go_wp2_with (go_at_call 92; refine HU.out.mono ?_; rintro e w2 ⟨hg2, v2, D2, n2, rfl, hn2, hv2, hp2⟩; obtain ⟨b, i, fp, q, rfl, h6, -⟩ := RepPF.head _ _ hv2; obtain ⟨-, c1, -, -⟩ := h6; rw [st_eq] at c1; rw [HS.out] at hv2; have HG := Lib.hid hg2; have HV := Lib.hid hv2; have HP2 := Lib.hid hp2; clear hg2 hv2 hp2)
      all_goals
        refine bodyPost_ret (v := .tuple #[.pointer (some ⟨b, 0, none⟩), .bool true]) ?_ rfl ?_
        · simp [results, Tryz.results70, go_sem]
        · exact PartPost.yes HR.out HG.out rfl hn2 HV.out HP2.out
    · have ht : termOf s.data.toList = none := by rw [termOf, hl]; simp [he]
      have HR : Hid (r = none) := by show _ = _; rw [← hr, ht]
      have hq1 : (text (sort t) == s.toList) = false := by rw [ByteArray.toList_eq]; simpa using he
      have hq2 : (text (sort t) != s.toList) = true := by rw [ByteArray.toList_eq]; simpa using he
      clear hr hl ht he
      go_enter Tryz.func70, Tryz.ntmps70
      go_wp2_with (go_at_call 92; refine HU.out.mono ?_; rintro e w2 ⟨hg2, v2, D2, n2, rfl, hn2, hv2, hp2⟩; obtain ⟨b, i, fp, q, rfl, h6, -⟩ := RepPF.head _ _ hv2; obtain ⟨-, c1, -, -⟩ := h6; rw [st_eq] at c1; have HG := Lib.hid hg2; clear hg2 hv2 hp2)
      all_goals
        refine bodyPost_ret (v := .tuple #[.pointer none, .bool false]) ?_ rfl ?_
        · simp [results, Tryz.results70, go_sem]
        · exact PartPost.no HR.out HG.out rfl

end Go.Proofs.YtopmkddmllmecaaGreatDoor
