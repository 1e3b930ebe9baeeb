/- The walks of readUnsorted and read. The walks of the program's TermValid, TermSort and TermSize. -/
import Derived.Test.YtopmkddmllmecaaGreatDoorImpW
import Derived.Test.YtopmkddmllmecaaGreatDoorSpecM
import Derived.Test.YtopmkddmllmecaaGreatDoorPure
import Derived.Test.YtopmkddmllmecaaGreatDoorImpO
/-! The walks of readUnsorted and read. -/
namespace Go.Proofs.YtopmkddmllmecaaGreatDoor
open Go.RowKit Rt Go.Lib
open Go.ChangeMaps Go.MapKept Go.Maps Go.WideMaps

/-- A term that a text is, is sorted. -/
theorem termOf_sorted (l : B) (t : Term) (h : termOf l = some t) : sort t = t ∧ text t = l := by
  obtain ⟨h1, h2⟩ := termOf_some l t h
  obtain ⟨h3, _, _, _⟩ := loose_some l t h1
  have h4 : text t = l := by
    unfold loose at h1
    cases hp : parse l with
    | none => rw [hp] at h1; simp at h1
    | some x =>
      rw [hp] at h1
      simp only at h1
      cases ht : toTerm 0 x with
      | none => rw [ht] at h1; simp at h1
      | some u =>
        rw [ht] at h1
        simp only at h1
        split at h1
        · simp only [Option.some.injEq] at h1
          subst h1
          rw [text, ← (toTerm_some 0 x u ht).1]
          exact parse_text l x hp
        · simp at h1
  exact ⟨text_inj 0 0 _ _ (by rw [ok_sort]; exact h3) h3 (h2.trans h4.symm), h4⟩


theorem PartPost.elder {F : Nat → Prop} {w w1 w2 : World} {p m n k : Nat} {r : Option Term} {e : Ending} (hg : w.grownBy w1 (some m)) (hm : ¬ F m) (hmw : m + 1 ≤ w.heap.size) (h : PartPost F w1 p m n k r e w2) : PartPost F w p m n k r e w2 := by
  obtain ⟨hg2, h⟩ := h
  have hs := hg.size
  refine ⟨hg.trans hg2, ?_⟩
  cases r with
  | none => exact h
  | some t =>
    obtain ⟨v, D, n', he, hn, h1, h2⟩ := h
    refine ⟨v, D, n', he, hn, RepPF.wider h1 ?_, Pool.wider h2 ?_ ?_⟩
    · rintro k (hk | hk)
      · exact .inl hk
      · exact .inr (by omega)
    · rintro k (hk | hk)
      · exact .inl hk
      · exact .inr (by omega)
    · rintro (hk | hk)
      · exact hm hk
      · omega

theorem PartPost.fewer {F : Nat → Prop} {w w2 : World} {p m n k k' : Nat} {r : Option Term} {e : Ending} (hk : k ≤ k') (h : PartPost F w p m n k r e w2) : PartPost F w p m n k' r e w2 := by
  obtain ⟨hg2, h⟩ := h
  refine ⟨hg2, ?_⟩
  cases r with
  | none => exact h
  | some t =>
    obtain ⟨v, D, n', he, hn, h1, h2⟩ := h
    exact ⟨v, D, n', he, by omega, h1, h2⟩

set_option maxHeartbeats 1600000 in
set_option maxRecDepth 100000 in
theorem readUnsorted_any (F : Nat → Prop) (p m n : Nat) (D : DataW Value) (s : ByteArray) (hs : s.size ≤ maxLen) (w : World) (hn : n ≤ 800000) (hP : Pool F w p m n D) :
    Calls Tryz.prog 92 #[.pointer (some ⟨p, 0, none⟩), .string s] w (PartPost F w p m n 4000 ((loose s.data.toList).map sort)) := by
  have hmw : m + 1 ≤ w.heap.size := hP.map.lt
  have hpw : p + 1 ≤ w.heap.size := hP.plt
  generalize hr : (loose s.data.toList).map sort = r
  have HRT := Lib.hid (readText_any s hs w)
  cases hp : parse s.data.toList with
  | none =>
    have HR : Hid (r = none) := by show _ = _; rw [← hr, loose, hp]; rfl
    rw [hp] at HRT
    clear hr hp hP
    go_enter Tryz.func92, Tryz.ntmps92
    go_wp2_with (go_at_call 111; refine HRT.out.mono ?_; rintro e w1 ⟨hb, rfl⟩; have HB := Lib.hid hb; clear hb)
    all_goals
      refine bodyPost_ret (v := .tuple #[.pointer none, .bool false]) ?_ rfl ?_
      · simp [results, Tryz.results92, go_sem]
      · exact PartPost.no HR.out (below_grown HB.out _) rfl
  | some x =>
    obtain ⟨f1, f2, f3⟩ := parse_facts _ _ hp
    have f4 := nodes_text _ x (Nat.le_refl _) f1
    rw [hp] at HRT
    have HF : Hid (∀ (w1 : World) (v : Value), Below w.heap.size w w1 → RepXF (fun k => w.heap.size ≤ k) w1 x v →
        Calls Tryz.prog 112 #[.pointer (some ⟨p, 0, none⟩), v, .int .i64 0] w1 (PartPost F w p m n 4000 ((toTerm 0 x).map sort))) := by
      intro w1 v hb hv
      refine (partSaid (fun k => w.heap.size ≤ k) p m (nodes x) F x v 0 n D w1 (Nat.le_refl _) ⟨hv, by show ¬ w.heap.size ≤ m; omega, by omega, by omega⟩ (by omega) ?_).mono ?_
      · exact hP.go (hb.block p (by omega)) (hb.block m (by omega)) (fun k _ hk => hb.block k hk) (fun _ h _ => h) hP.far
      · intro e w2 h
        exact PartPost.elder (below_grown hb _) hP.far hmw (h.fewer (by omega))
    cases ht : toTerm 0 x with
    | none =>
      have HR : Hid (r = none) := by show _ = _; rw [← hr, loose, hp]; simp [ht]
      rw [ht] at HF
      clear hr hp hP ht
      go_enter Tryz.func92, Tryz.ntmps92
      go_wp2_with (first
        | (go_at_call 111; refine HRT.out.mono ?_; rintro e w1 ⟨hb, v, rfl, hv⟩; have HC := Lib.hid (HF.out w1 v hb hv); clear hb hv)
        | (go_at_call 112; refine HC.out.mono ?_; rintro e w2 ⟨hg2, rfl⟩; have HG := Lib.hid hg2; clear hg2))
      all_goals
        refine bodyPost_ret (v := .tuple #[.pointer none, .bool false]) ?_ rfl ?_
        · simp [results, Tryz.results92, go_sem]
        · exact PartPost.no HR.out HG.out rfl
    | some t =>
      rw [ht] at HF
      obtain ⟨_, _, _, _, f5⟩ := loose_facts _ _ _ hp ht
      by_cases hz : size t ≤ 60
      · have HR : Hid (r = some (sort t)) := by show _ = _; rw [← hr, loose, hp]; simp [ht, hz]
        have hq : decide ((60 : Int) < (size t : Int)) = false := by simp; omega
        have hq2 : decide ((size t : Int) ≤ 60) = true := by simp; omega
        clear hr hp hP ht
        go_enter Tryz.func92, Tryz.ntmps92
        go_wp2_with (first
          | (go_at_call 111; refine HRT.out.mono ?_; rintro e w1 ⟨hb, v, rfl, hv⟩; have HC := Lib.hid (HF.out w1 v hb hv); clear hb hv)
          | (go_at_call 112; refine HC.out.mono ?_; rintro e w2 ⟨hg2, v2, D2, n2, rfl, hn2, hv2, hp2⟩; obtain ⟨b, i, fp, q, rfl, h6, -⟩ := RepPF.head _ _ hv2; obtain ⟨-, -, c2, -⟩ := h6; rw [size_sort] at c2; have HG := Lib.hid hg2; have HV := Lib.hid hv2; have HP2 := Lib.hid hp2; clear hg2 hv2 hp2))
        all_goals
          refine bodyPost_ret (v := .tuple #[.pointer (some ⟨b, 0, none⟩), .bool true]) ?_ rfl ?_
          · simp [results, Tryz.results92, go_sem]
          · exact PartPost.yes HR.out HG.out rfl hn2 HV.out HP2.out
      · have HR : Hid (r = none) := by show _ = _; rw [← hr, loose, hp]; simp [ht, hz]
        have hq : decide ((60 : Int) < (size t : Int)) = true := by simp; omega
        have hq2 : decide ((size t : Int) ≤ 60) = false := by simp; omega
        clear hr hp hP ht
        go_enter Tryz.func92, Tryz.ntmps92
        go_wp2_with (first
          | (go_at_call 111; refine HRT.out.mono ?_; rintro e w1 ⟨hb, v, rfl, hv⟩; have HC := Lib.hid (HF.out w1 v hb hv); clear hb hv)
          | (go_at_call 112; refine HC.out.mono ?_; rintro e w2 ⟨hg2, v2, D2, n2, rfl, hn2, hv2, hp2⟩; obtain ⟨b, i, fp, q, rfl, h6, -⟩ := RepPF.head _ _ hv2; obtain ⟨-, -, c2, -⟩ := h6; rw [size_sort] at c2; have HG := Lib.hid hg2; clear hg2 hv2 hp2))
        all_goals
          refine bodyPost_ret (v := .tuple #[.pointer none, .bool false]) ?_ rfl ?_
          · simp [results, Tryz.results92, go_sem]
          · exact PartPost.no HR.out HG.out rfl

set_option maxHeartbeats 1600000 in
set_option maxRecDepth 100000 in
theorem read_any (F : Nat → Prop) (p m n : Nat) (D : DataW Value) (s : ByteArray) (hs : s.size ≤ maxLen) (w : World) (hn : n ≤ 800000) (hP : Pool F w p m n D) :
    Calls Tryz.prog 70 #[.pointer (some ⟨p, 0, none⟩), .string s] w (PartPost F w p m n 4000 (termOf s.data.toList)) := by
  have HU := Lib.hid (readUnsorted_any F p m n D s hs w hn hP)
  clear hP
  generalize hr : termOf s.data.toList = r
  cases hl : loose s.data.toList with
  | none =>
    have HR : Hid (r = none) := by show _ = _; rw [← hr, termOf, hl]
    rw [hl] at HU
    clear hr hl
    go_enter Tryz.func70, Tryz.ntmps70
    go_wp2_with (go_at_call 92; refine HU.out.mono ?_; rintro e w2 ⟨hg2, rfl⟩; have HG := Lib.hid hg2; clear hg2)
    all_goals
      refine bodyPost_ret (v := .tuple #[.pointer none, .bool false]) ?_ rfl ?_
      · simp [results, Tryz.results70, go_sem]
      · exact PartPost.no HR.out HG.out rfl
  | some t =>
    rw [hl] at HU
    by_cases he : text (sort t) = s.data.toList
    · have ht : termOf s.data.toList = some t := by rw [termOf, hl]; simp [he]
      have hst := (termOf_sorted _ _ ht).1
      have HR : Hid (r = some t) := by show _ = _; rw [← hr, ht]
      have HS := Lib.hid hst
      have hq1 : (text (sort t) == s.toList) = true := by rw [ByteArray.toList_eq, he]; simp
      have hq2 : (text (sort t) != s.toList) = false := by rw [ByteArray.toList_eq, he]; simp
      clear hr hl ht he hst
      go_enter Tryz.func70, Tryz.ntmps70
      go_wp2_with (go_at_call 92; refine HU.out.mono ?_; rintro e w2 ⟨hg2, v2, D2, n2, rfl, hn2, hv2, hp2⟩; obtain ⟨b, i, fp, q, rfl, h6, -⟩ := RepPF.head _ _ hv2; obtain ⟨-, c1, -, -⟩ := h6; rw [st_eq] at c1; rw [HS.out] at hv2; have HG := Lib.hid hg2; have HV := Lib.hid hv2; have HP2 := Lib.hid hp2; clear hg2 hv2 hp2)
      all_goals
        refine bodyPost_ret (v := .tuple #[.pointer (some ⟨b, 0, none⟩), .bool true]) ?_ rfl ?_
        · simp [results, Tryz.results70, go_sem]
        · exact PartPost.yes HR.out HG.out rfl hn2 HV.out HP2.out
    · have ht : termOf s.data.toList = none := by rw [termOf, hl]; simp [he]
      have HR : Hid (r = none) := by show _ = _; rw [← hr, ht]
      have hq1 : (text (sort t) == s.toList) = false := by rw [ByteArray.toList_eq]; simpa using he
      have hq2 : (text (sort t) != s.toList) = true := by rw [ByteArray.toList_eq]; simpa using he
      clear hr hl ht he
      go_enter Tryz.func70, Tryz.ntmps70
      go_wp2_with (go_at_call 92; refine HU.out.mono ?_; rintro e w2 ⟨hg2, v2, D2, n2, rfl, hn2, hv2, hp2⟩; obtain ⟨b, i, fp, q, rfl, h6, -⟩ := RepPF.head _ _ hv2; obtain ⟨-, c1, -, -⟩ := h6; rw [st_eq] at c1; have HG := Lib.hid hg2; clear hg2 hv2 hp2)
      all_goals
        refine bodyPost_ret (v := .tuple #[.pointer none, .bool false]) ?_ rfl ?_
        · simp [results, Tryz.results70, go_sem]
        · exact PartPost.no HR.out HG.out rfl

end Go.Proofs.YtopmkddmllmecaaGreatDoor

/-! The walks of the program's TermValid, TermSort and TermSize. -/
namespace Go.Proofs.YtopmkddmllmecaaGreatDoor
open Go.RowKit Rt Go.Lib
open Go.ChangeMaps Go.MapKept Go.Maps Go.WideMaps

/-- A new pool, and what is made in it: nothing that was there before has turned. -/
theorem below_pool {w w1 w2 : World} (h : Below w.heap.size w w1) (hg : w1.grownBy w2 (some w.heap.size)) : Below w.heap.size w w2 :=
  h.grown hg h.size (fun k hk => by injection hk with hk; omega)

set_option maxHeartbeats 800000 in
set_option maxRecDepth 100000 in
theorem implTermValid (s : ByteArray) (hs : s.size ≤ maxLen) (w : World) :
    Calls Tryz.prog 38 #[.string s] w fun e w' => e = .returned (.bool (termOf s.data.toList).isSome) ∧ Below w.heap.size w w' := by
  have HC : Hid (∀ w1, Pool (fun _ => False) w1 (w.heap.size + 1) w.heap.size 0 (.map []) → Calls Tryz.prog 70 #[.pointer (some ⟨w.heap.size + 1, 0, none⟩), .string s] w1 (PartPost (fun _ => False) w1 (w.heap.size + 1) w.heap.size 0 4000 (termOf s.data.toList))) :=
    fun w1 hP => read_any _ _ _ 0 _ s hs w1 (by omega) hP
  generalize termOf s.data.toList = r at HC ⊢
  go_enter Tryz.func38, Tryz.ntmps38
  go_wp2_with fail
  refine (newTermPool_any _).mono ?_
  rintro e w1 ⟨rfl, hb, hz, hP⟩
  have HB := Lib.hid hb
  have HC1 := Lib.hid (HC.out w1 hP)
  clear hb hP hz
  go_wp2_with fail
  refine HC1.out.mono ?_
  intro e w2 hq
  cases r with
  | none =>
    obtain ⟨hg, rfl⟩ := hq
    have HG := Lib.hid hg
    clear hg
    go_wp2_with fail
    go_ret
    exact ⟨rfl, below_pool HB.out HG.out⟩
  | some t =>
    obtain ⟨hg, v, D, n, rfl, -, -, -⟩ := hq
    have HG := Lib.hid hg
    clear hg
    go_wp2_with fail
    go_ret
    exact ⟨rfl, below_pool HB.out HG.out⟩

end Go.Proofs.YtopmkddmllmecaaGreatDoor
