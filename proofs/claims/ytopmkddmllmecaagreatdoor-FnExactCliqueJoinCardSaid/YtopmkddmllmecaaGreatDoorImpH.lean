/- The program's index. The program's fromAtom. The order of the bag's terms. The texts of a bag. -/
import Derived.Test.YtopmkddmllmecaaGreatDoorImpE
import Derived.Test.YtopmkddmllmecaaGreatDoorShelf
import Derived.Deep.RegionWith
import Derived.Test.YtopmkddmllmecaaGreatDoorSpecI
set_option linter.unusedSimpArgs false
set_option linter.unusedVariables false
/-! The program's index. -/
namespace Go.Proofs.YtopmkddmllmecaaGreatDoor
open Go.RowKit Rt

theorem dec_lib : ∀ n, n < 100 → dec n = Lib.decDigits n := by decide +kernel

theorem atoi_dec : ∀ n, n < 100 → Lib.atoi (dec n) = some (n : Int) := by decide +kernel

/-- What readIndex answers. -/
def idxVal : Option Nat → Value
  | some n => .tuple #[.int .i64 n, .bool true]
  | none => .tuple #[.int .i64 0, .bool false]

/-- The shapes of a text, as readIndex tells them apart. -/
theorem idx_cases (l : B) :
    (l = [] ∧ index? l = none) ∨
    (3 ≤ l.length ∧ (l == []) = false ∧ index? l = none) ∨
    (1 ≤ l.length ∧ l.length ≤ 2 ∧ (l == []) = false ∧ l.all isDig = false ∧ index? l = none) ∨
    (1 ≤ l.length ∧ l.length ≤ 2 ∧ (l == []) = false ∧ l.all isDig = true ∧ ∃ c r, l = c :: r ∧ ((c.toNat : Int) == 48) = true ∧ (l == [48]) = false ∧ index? l = none) ∨
    (1 ≤ l.length ∧ l.length ≤ 2 ∧ (l == []) = false ∧ l.all isDig = true ∧ ∃ c r n, l = c :: r ∧ (((c.toNat : Int) == 48) = false ∨ (((c.toNat : Int) == 48) = true ∧ (l == [48]) = true)) ∧ index? l = some n) := by
  match l with
  | [] => exact .inl ⟨rfl, rfl⟩
  | [c] =>
    by_cases hc : isDig c = true
    · refine .inr (.inr (.inr (.inr ⟨by simp, by simp, rfl, by simp [hc], c, [], c.toNat - 48, rfl, ?_, by simp [index?, hc]⟩)))
      by_cases h48 : c = 48
      · subst h48; exact .inr ⟨rfl, rfl⟩
      · refine .inl ?_
        rw [beq_eq_false_iff_ne]
        intro e
        exact h48 (UInt8.toNat.inj (show c.toNat = 48 by omega))
    · exact .inr (.inr (.inl ⟨by simp, by simp, rfl, by simp [hc], by simp [index?, hc]⟩))
  | [c, d] =>
    by_cases hc : (isDig c && isDig d) = true
    · by_cases h48 : c = 48
      · subst h48
        exact .inr (.inr (.inr (.inl ⟨by simp, by simp, rfl, by simpa using hc, 48, [d], rfl, rfl, rfl, by simp [index?]⟩)))
      · refine .inr (.inr (.inr (.inr ⟨by simp, by simp, rfl, by simpa using hc, c, [d], 10 * (c.toNat - 48) + (d.toNat - 48), rfl, .inl ?_, by simp at hc; simp [index?, hc, h48]⟩)))
        rw [beq_eq_false_iff_ne]
        intro e
        exact h48 (UInt8.toNat.inj (show c.toNat = 48 by omega))
    · exact .inr (.inr (.inl ⟨by simp, by simp, rfl, by simpa using hc, by simp at hc; simp [index?]; intro h1 h2; simp [hc h1] at h2⟩))
  | _ :: _ :: _ :: _ => exact .inr (.inl ⟨by simp, rfl, rfl⟩)

/-- Old blocks stay, and the machine. -/
def Grew (w w' : World) : Prop := Below w.heap.size w w'

set_option maxHeartbeats 1600000 in
set_option maxRecDepth 100000 in
theorem readIndex_any (l : B) (w : World) (hm : l.length ≤ 1000000) :
    Calls Tryz.prog 146 #[st l] w fun e w' => e = .returned (idxVal (index? l)) ∧ Grew w w' := by
  have hbs : (⟨l.toArray⟩ : ByteArray).size = l.length := by simp [ByteArray.size]
  have hbl : (⟨l.toArray⟩ : ByteArray).toList = l := by rw [ByteArray.toList_eq]
  have hd : ∀ W, Calls Tryz.prog 84 #[.string ⟨l.toArray⟩] W fun e w' => e = .returned (.bool (l.all isDig)) ∧ W = w' := fun W => (allDigits_any _ W (by rw [hbs]; unfold maxLen; omega)).mono (fun e w' h => by rw [allTo_all] at h; exact h)
  have HD := Lib.hid hd
  clear hd
  have hcases := idx_cases l
  rw [st_eq]
  generalize hs : (⟨l.toArray⟩ : ByteArray) = s at *
  rcases hcases with ⟨h1, h2⟩ | ⟨h1, h2, h3⟩ | ⟨h1, h2, h3, h4, h5⟩ | ⟨h1, h2, h3, h4, c, r, h5, h6, h7, h8⟩ | ⟨h1, h2, h3, h4, c, r, n, h5, h6, h7⟩
  · have q0 : (s.toList == []) = true := by rw [hbl, h1]; rfl
    have HX := Lib.hid h2
    clear hs h1 h2 hbl
    go_enter Tryz.func146, Tryz.ntmps146
    go_wp2_with fail
    refine bodyPost_ret (v := .tuple #[.int .i64 0, .bool false]) ?_ rfl ?_
    · simp [results, Tryz.results146, go_sem]
    exact ⟨by rw [HX.out, idxVal], Below.refl _ _⟩
  · have q0 : (s.toList == []) = false := by rw [hbl, h2]
    have HX := Lib.hid h3
    clear hs h2 h3 hbl
    go_enter Tryz.func146, Tryz.ntmps146
    go_wp2_with fail
    all_goals
      refine bodyPost_ret (v := .tuple #[.int .i64 0, .bool false]) ?_ rfl ?_
      · simp [results, Tryz.results146, go_sem]
      exact ⟨by rw [HX.out, idxVal], Below.refl _ _⟩
  · have q0 : (s.toList == []) = false := by rw [hbl, h3]
    have HX := Lib.hid h5
    have H4 := Lib.hid h4
    clear hs h3 h5 h4 hbl
    go_enter Tryz.func146, Tryz.ntmps146
    go_wp2_with (go_at_call 84; refine (HD.out _).mono ?_; rintro e w' ⟨rfl, rfl⟩; rw [H4.out])
    all_goals
      refine bodyPost_ret (v := .tuple #[.int .i64 0, .bool false]) ?_ rfl ?_
      · simp [results, Tryz.results146, go_sem]
      exact ⟨by rw [HX.out, idxVal], Below.refl _ _⟩
  · have q0 : (s.toList == []) = false := by rw [hbl, h3]
    have q1 : (s.toList == [48]) = false := by rw [hbl, h7]
    have hz : 0 < s.size := by omega
    have q2 : ((s[0].toNat : Int) == 48) = true := by
      have : s[0] = c := by subst h5; subst hs; rfl
      rw [this]; exact h6
    have HX := Lib.hid h8
    have H4 := Lib.hid h4
    clear hs h3 h5 h4 hbl h6 h7 h8
    go_enter Tryz.func146, Tryz.ntmps146
    go_wp2_with (go_at_call 84; refine (HD.out _).mono ?_; rintro e w' ⟨rfl, rfl⟩; rw [H4.out])
    all_goals
      refine bodyPost_ret (v := .tuple #[.int .i64 0, .bool false]) ?_ rfl ?_
      · simp [results, Tryz.results146, go_sem]
      exact ⟨by rw [HX.out, idxVal], Below.refl _ _⟩
  · have q0 : (s.toList == []) = false := by rw [hbl, h3]
    have hz : 0 < s.size := by omega
    have hsc : s[0] = c := by subst h5; subst hs; rfl
    obtain ⟨e1, e2⟩ := index_dec l n h7
    have hat : Lib.atoi s.data.toList = some (n : Int) := by rw [← hs]; show Lib.atoi l = _; rw [e1]; exact atoi_dec n e2
    have HA := Lib.hid (Tryz.strconv_Atoi s n (by omega) hat)
    have HX := Lib.hid h7
    have H4 := Lib.hid h4
    have q2 : ((s[0].toNat : Int) == 48) = false ∨ (((s[0].toNat : Int) == 48) = true ∧ (s.toList == [48]) = true) := by rw [hsc, hbl]; exact h6
    clear hs h3 h5 h4 hbl h6 h7 e1 e2 hat hsc
    rcases q2 with q2 | ⟨q2, q3⟩
    all_goals
      go_enter Tryz.func146, Tryz.ntmps146
      go_wp2_with (first
        | (go_at_call 84; refine (HD.out _).mono ?_; rintro e w' ⟨rfl, rfl⟩; rw [H4.out]))
      all_goals
        go_at_call 167
        refine (HA.out _).mono ?_
        rintro e w3 ⟨rfl, tt, hw⟩
        have hB : Below w.heap.size w w3 := hw ▸ Lib.bytesWorld_below w 5 tt
        clear hw
        go_wp2_with fail
        go_quiet (fail)
        go_wp2_with fail
        refine bodyPost_ret (v := .tuple #[.int .i64 n, .bool true]) ?_ rfl ?_
        · simp [results, Tryz.results146, go_sem]
        exact ⟨by rw [HX.out, idxVal], ⟨hB.1, hB.2, hB.3, hB.4, hB.5⟩⟩

end Go.Proofs.YtopmkddmllmecaaGreatDoor

/-! The program's fromAtom. -/
namespace Go.Proofs.YtopmkddmllmecaaGreatDoor
open Go.RowKit Rt

set_option maxHeartbeats 800000 in
set_option maxRecDepth 100000 in
theorem index_any (F : Nat → Prop) (i j : Nat) (p m n : Nat) (D : DataW Value) (w : World) (hi : i < 100) (hok : ok j (.ix i) = true) (hn : n < 1000000) (hP : Pool F w p m n D) :
    Calls Tryz.prog 88 #[.pointer (some ⟨p, 0, none⟩), .int .i64 i] w (PoolPost F w p m (n + 1) (.ix i)) := by
  have hdl : (dec i).length ≤ 2 := by unfold dec; split <;> simp
  have hin := intern_any F (.ix i) j p m n D i (.pointer none) (.slice none 0 0) w hok (by show (text (.ix i)).length ≤ _; rw [text_ix]; omega) hn rfl rfl hP (by
    intro G W b h6 hb _ _
    rw [RepPF]
    exact ⟨b, rfl, h6, hb⟩)
  rw [text_ix, dec_lib i hi, st_eq, show ((outer (.ix i) : Nat) : Int) = (i : Int) + 1 by rw [outer]; push_cast; rfl] at hin
  have HI := Lib.hid hin
  clear hin hP
  go_enter Tryz.func88, Tryz.ntmps88
  go_wp2_with (first
    | (go_at_call 107; refine (Tryz.strconv_Itoa_small i hi _).mono ?_; rintro e w' ⟨rfl, rfl⟩)
    | (go_at_call 104; refine (HI.out).mono ?_; rintro e w' ⟨hg, v, D', rfl, h1, h2⟩))
  go_ret
  exact ⟨hg, v, D', rfl, h1, h2⟩

/-- What reading a part gives: at most k entries more in the pool. -/
def PartPost (F : Nat → Prop) (w : World) (p m n k : Nat) (r : Option Term) (e : Ending) (w' : World) : Prop :=
  w.grownBy w' (some m) ∧ match r with
    | some t => ∃ v D n', e = .returned (.tuple #[v, .bool true]) ∧ n' ≤ n + k ∧ RepPF (fun k => F k ∨ w.heap.size ≤ k) w' t v ∧ Pool (fun k => F k ∨ w.heap.size ≤ k) w' p m n' D
    | none => e = .returned (.tuple #[.pointer none, .bool false])

theorem PartPost.yes {F : Nat → Prop} {w : World} {p m n k n' : Nat} {r : Option Term} {t : Term} {e : Ending} {w' : World} {v : Value} {D : DataW Value} (hr : r = some t) (hg : w.grownBy w' (some m)) (he : e = .returned (.tuple #[v, .bool true])) (hn : n' ≤ n + k)
    (h1 : RepPF (fun k => F k ∨ w.heap.size ≤ k) w' t v) (h2 : Pool (fun k => F k ∨ w.heap.size ≤ k) w' p m n' D) : PartPost F w p m n k r e w' := by
  subst hr
  exact ⟨hg, v, D, n', he, hn, h1, h2⟩

theorem PartPost.no {F : Nat → Prop} {w : World} {p m n k : Nat} {r : Option Term} {e : Ending} {w' : World} (hr : r = none) (hg : w.grownBy w' (some m)) (he : e = .returned (.tuple #[.pointer none, .bool false])) : PartPost F w p m n k r e w' := by
  subst hr
  exact ⟨hg, he⟩

theorem PartPost.shape {F : Nat → Prop} {w : World} {p m n k : Nat} {r : Option Term} {e : Ending} {w' : World} (h : PartPost F w p m n k r e w') : ∃ v ok, e = .returned (.tuple #[v, .bool ok]) := by
  cases r with
  | none => exact ⟨_, _, h.2⟩
  | some t => obtain ⟨_, v, D, n', he, _⟩ := h; exact ⟨_, _, he⟩

theorem Grew.grown {w w' : World} (h : Grew w w') (row : Option Nat) : w.grownBy w' row := ⟨h.1, h.2, h.3, h.4, fun k hk _ => h.5 k hk⟩

theorem Pool.grew {F : Nat → Prop} {w w' : World} {p m n : Nat} {D : DataW Value} (h : Pool F w p m n D) (hg : Grew w w') : Pool F w' p m n D :=
  h.go (hg.5 p h.plt) (hg.5 m h.map.lt) (fun k _ hk => hg.5 k hk) (fun _ h _ => h) h.far

theorem RepPF.wider {F G : Nat → Prop} {w : World} {t : Term} {v : Value} (h : RepPF F w t v) (hG : ∀ k, F k → G k) : RepPF G w t v :=
  RepPF.move (fun _ _ _ => rfl) (fun k hk _ => hG k hk) t v h

theorem Pool.wider {F G : Nat → Prop} {w : World} {p m n : Nat} {D : DataW Value} (h : Pool F w p m n D) (hG : ∀ k, F k → G k) (hm : ¬ G m) : Pool G w p m n D :=
  h.go rfl rfl (fun _ _ _ => rfl) (fun k hk _ => hG k hk) hm

/-- The same from an elder world, of which all has stayed but for the row m. -/
theorem PoolPost.elder {F : Nat → Prop} {w w3 w4 : World} {p m n : Nat} {t : Term} {e : Ending} (hg : w.grownBy w3 (some m)) (hm : ¬ F m) (hmw : m + 1 ≤ w.heap.size) (h : PoolPost F w3 p m n t e w4) : PoolPost F w p m n t e w4 := by
  obtain ⟨hg2, v, D, he, h1, h2⟩ := h
  have hs := hg.size
  refine ⟨hg.trans hg2, v, D, he, RepPF.wider h1 ?_, Pool.wider h2 ?_ ?_⟩
  · rintro k (hk | hk)
    · exact .inl hk
    · exact .inr (by omega)
  · rintro k (hk | hk)
    · exact .inl hk
    · exact .inr (by omega)
  · rintro (hk | hk)
    · exact hm hk
    · omega

theorem PartPost.pool {F : Nat → Prop} {w w' : World} {p m n k : Nat} {r : Option Term} {t : Term} {v : Value} (hr : r = some t) (h : PoolPost F w p m (n + k) t (.returned v) w') : PartPost F w p m n k r (.returned (.tuple #[v, .bool true])) w' := by
  obtain ⟨hg, v', D, he, h1, h2⟩ := h
  injection he with he
  subst he
  exact PartPost.yes hr hg rfl (Nat.le_refl _) h1 h2

set_option maxHeartbeats 1600000 in
set_option maxRecDepth 100000 in
theorem fromAtom_any (F : Nat → Prop) (a : B) (k : Nat) (p m n : Nat) (D : DataW Value) (w : World) (ha : a.length ≤ 1000000) (hk : k ≤ 1000000) (hn : n < 1000000) (hP : Pool F w p m n D) :
    Calls Tryz.prog 127 #[.pointer (some ⟨p, 0, none⟩), st a, .int .i64 k] w (PartPost F w p m n 1 ((toTerm k (.atom a)).map sort)) := by
  rw [st_eq]
  have HN : Hid (∀ W, Calls Tryz.prog 57 #[.string ⟨a.toArray⟩] W fun e w' => e = .returned (.bool (isName a)) ∧ W = w') := fun W => isName_any a W (by unfold maxLen; omega)
  have HR : Hid (∀ W, Calls Tryz.prog 146 #[.string ⟨a.toArray⟩] W fun e w' => e = .returned (idxVal (index? a)) ∧ Grew W w') := fun W => readIndex_any a W ha
  cases hna : isName a
  · have hT : toTerm k (.atom a) = (match index? a with | some i => if i < k then some (.ix i) else none | none => none) := by rw [toTerm, hna]; rfl
    have HNA := Lib.hid hna
    clear hna
    cases hix : index? a with
    | none =>
      rw [hix] at hT
      have HT := Lib.hid hT
      have HIX := Lib.hid hix
      clear hT hix hP
      go_enter Tryz.func127, Tryz.ntmps127
      go_wp2_with (first
        | (go_at_call 57; refine (HN.out _).mono ?_; rintro e w' ⟨rfl, rfl⟩; rw [HNA.out])
        | (go_at_call 146; refine (HR.out _).mono ?_; rintro e w3 ⟨rfl, hB⟩; rw [HIX.out, idxVal]))
      all_goals
        refine bodyPost_ret (v := .tuple #[.pointer none, .bool false]) ?_ rfl ?_
        · simp [results, Tryz.results127, go_sem]
        · exact PartPost.no (by rw [HT.out]; rfl) (hB.grown _) rfl
    | some i =>
      rw [hix] at hT
      have hi := (index_dec a i hix).2
      have HIX := Lib.hid hix
      clear hix
      by_cases hlt : i < k
      · have HT : Hid ((toTerm k (.atom a)).map sort = some (.ix i)) := by show _ = _; rw [hT]; simp [hlt, sort]
        have HP := Lib.hid hP
        have hok : ok k (.ix i) = true := by simp [ok, hlt, hi]
        have HOK := Lib.hid hok
        clear hT hP hok
        go_enter Tryz.func127, Tryz.ntmps127
        go_wp2_with (first
          | (go_at_call 57; refine (HN.out _).mono ?_; rintro e w' ⟨rfl, rfl⟩; rw [HNA.out])
          | (go_at_call 146; refine (HR.out _).mono ?_; rintro e w3 ⟨rfl, hB⟩; rw [HIX.out, idxVal])
          | (go_at_call 88; refine (index_any F i k p m n D _ hi HOK.out hn (HP.out.grew hB)).mono ?_; rintro e w4 hq; have HQ := Lib.hid hq; obtain ⟨-, v, D', rfl, -, -⟩ := hq))
        all_goals
          refine bodyPost_ret (v := .tuple #[v, .bool true]) ?_ rfl ?_
          · simp [results, Tryz.results127, go_sem]
          · exact PartPost.pool HT.out (PoolPost.elder (hB.grown _) HP.out.far HP.out.map.lt HQ.out)
      · have HT : Hid ((toTerm k (.atom a)).map sort = none) := by show _ = _; rw [hT]; simp [hlt]
        clear hT hP
        go_enter Tryz.func127, Tryz.ntmps127
        go_wp2_with (first
          | (go_at_call 57; refine (HN.out _).mono ?_; rintro e w' ⟨rfl, rfl⟩; rw [HNA.out])
          | (go_at_call 146; refine (HR.out _).mono ?_; rintro e w3 ⟨rfl, hB⟩; rw [HIX.out, idxVal]))
        all_goals
          refine bodyPost_ret (v := .tuple #[.pointer none, .bool false]) ?_ rfl ?_
          · simp [results, Tryz.results127, go_sem]
          · exact PartPost.no HT.out (hB.grown _) rfl
  · have HT : Hid ((toTerm k (.atom a)).map sort = some (.nm a)) := by show _ = _; rw [toTerm, hna]; rfl
    have HP := Lib.hid hP
    have HNA := Lib.hid hna
    clear hP hna
    go_enter Tryz.func127, Tryz.ntmps127
    go_wp2_with (first
      | (go_at_call 57; refine (HN.out _).mono ?_; rintro e w' ⟨rfl, rfl⟩; rw [HNA.out])
      | (go_at_call 145; refine (name_any F a p m n D _ HNA.out hn HP.out).mono ?_; rintro e w4 ⟨hg, v, D', rfl, h1, h2⟩))
    all_goals
      refine bodyPost_ret (v := .tuple #[v, .bool true]) ?_ rfl ?_
      · simp [results, Tryz.results127, go_sem]
      · exact PartPost.yes HT.out hg rfl (Nat.le_refl _) h1 h2

end Go.Proofs.YtopmkddmllmecaaGreatDoor

/-! The order of the bag's terms. -/
namespace Go.Proofs.YtopmkddmllmecaaGreatDoor
open Go.RowKit Rt

set_option maxHeartbeats 1600000 in
set_option maxRecDepth 100000 in
theorem cmp_any (F : Nat → Prop) (t u : Term) (v x : Value) (w : World) (hv : RepPF F w t v) (hx : RepPF F w u x) :
    Calls Tryz.prog 136 #[v, x] w fun e w' => e = .returned (.int .i64 (Lib.compareBytes (text t) (text u))) ∧ Drew w w' := by
  obtain ⟨b, i, pp, ll, rfl, h6, hb⟩ := RepPF.head t v hv
  obtain ⟨c0, c1, c2, c3, c4, c5, -⟩ := h6
  obtain ⟨b', i', pp', ll', rfl, h6', hb'⟩ := RepPF.head u x hx
  obtain ⟨d0, d1, d2, d3, d4, d5⟩ := h6'
  rw [st_eq] at c1 d1
  have HC : Hid (∀ W, Calls Tryz.prog 137 #[.string ⟨(text t).toArray⟩, .string ⟨(text u).toArray⟩] W fun e w' => e = .returned (.int .i64 (Lib.compareBytes (text t) (text u))) ∧ w' = W) := fun W => Tryz.strings_Compare _ _ W
  clear hv hx
  go_enter Tryz.func136, Tryz.ntmps136
  go_wp2_with fail
  go_quiet ((go_at_call 137; (first | exact quiet_here (fun W => HC.out W) | exact Calls.quiet_of_same (HC.out _))))
  go_wp2_with fail
  go_ret
  exact ⟨rfl, _, rfl⟩

end Go.Proofs.YtopmkddmllmecaaGreatDoor

/-! The texts of a bag. -/
namespace Go.Proofs.YtopmkddmllmecaaGreatDoor
open Go.RowKit Rt

theorem text_info : (Tryz.prog.info? 9).map (fun i => (i.zero, i.size, i.bytes)) = some (some (.string ⟨#[]⟩), 1, 16) := by kernel_rfl

def tx (l : List Term) : List Value := l.map (fun t => .string ⟨(text t).toArray⟩)

theorem tx_take (l : List Term) (k : Nat) (t : Term) (h : l[k]? = some t) : tx (l.take (k + 1)) = tx (l.take k) ++ [.string ⟨(text t).toArray⟩] := by
  unfold tx
  rw [List.take_add_one, h]
  simp

theorem RepPsF.at {F : Nat → Prop} {w : World} : ∀ (l : List Term) (xs : List Value) (i : Nat) (t : Term), RepPsF F w l xs → l[i]? = some t → ∃ x, xs[i]? = some x ∧ RepPF F w t x
  | [], _, _, _, _, h => by simp at h
  | u :: l, xs, i, t, e, h => by
    rw [RepPsF] at e
    obtain ⟨x, r, rfl, h3, h4⟩ := e
    cases i with
    | zero => simp at h; subst h; exact ⟨x, rfl, h3⟩
    | succ i => simp at h; simpa using RepPsF.at l r i t h4 h

/-- The texts, in a row of the call's own. -/
def TextsPost (w : World) (l : List Term) (e : Ending) (w' : World) : Prop :=
  Below w.heap.size w w' ∧ ∃ g c, e = .returned (.slice (some ⟨g, 0, none⟩) l.length c) ∧ w'.ownsRow w.heap.size 9 1 (.slice (some ⟨g, 0, none⟩) l.length c) l.length (tx l)

set_option maxHeartbeats 1600000 in
set_option maxRecDepth 100000 in
theorem bagTexts_any (F : Nat → Prop) (l : List Term) (v : Value) (xs : List Value) (w : World) (hl : l.length ≤ 100000) (hv : RowF F w v l.length xs) (hx : RepPsF F w l xs) :
    Calls Tryz.prog 139 #[v] w (TextsPost w l) := by
  obtain ⟨A, c, rfl, hc1, hc2, hA⟩ := hv
  obtain ⟨i0, hi0, hz0, hz1, hz2⟩ := info_parts text_info
  have HA := Lib.hid hA
  have HX := Lib.hid hx
  clear hA hx
  go_enter Tryz.func139, Tryz.ntmps139
  go_wp2_with fail
  go_loopw [3, 9] (fun sv iv wr => ∃ k : Nat, k ≤ l.length ∧ iv = .int .i64 k ∧ Hid (∃ g c, sv = .slice (some ⟨g, 0, none⟩) k c) ∧ Hid (wr.ownsRow w.heap.size 9 1 sv k (tx (l.take k))) ∧ Hid (Below w.heap.size w wr)) (fun _ iv _ => l.length - (intOf iv).toNat)
  case atStart => exact ⟨0, Nat.zero_le _, rfl, ⟨_, _, rfl⟩, own_new w 9 #[] 0 1 w.heap.size (Nat.le_refl _) rfl (by decide), below_one w _⟩
  case round =>
    obtain ⟨k, hk, rfl, ⟨sg, sc, rfl⟩, hown, hbel⟩ := hrel
    by_cases hlt : k < l.length
    · obtain ⟨g, rfl, hcells, hF⟩ := HA.out (by omega)
      obtain ⟨t, ht⟩ : ∃ t, l[k]? = some t := ⟨l[k], List.getElem?_eq_getElem hlt⟩
      obtain ⟨x, hxk, hrep⟩ := RepPsF.at l xs k t HX.out ht
      obtain ⟨b, i, pp, ll, rfl, h6, hb⟩ := RepPF.head t x hrep
      have hsame : ∀ a u, w.cell? a = some u → wr.cell? a = some u := below_keeps hbel.out
      have e0 : wr.cell? ⟨g, k, none⟩ = some (.pointer (some ⟨b, 0, none⟩)) := hsame _ _ (hcells k _ hxk)
      have e1 : wr.cell? ⟨b, 1, none⟩ = some (.string ⟨(text t).toArray⟩) := hsame _ _ h6.2.1
      have HT := Lib.hid (tx_take l k t ht)
      clear hcells hxk hrep h6 hsame ht
      go_wp2_with (at_builtin; refine wpList_append_own_at _ rfl _ _ 22 rfl w.heap.size 9 i0 (.string ⟨#[]⟩) 1 16 Tryz.underlying22 hi0 hz0 hz1 hz2 rfl (Nat.succ_pos 0) (.slice (some ⟨sg, 0, none⟩) k sc) k (tx (l.take k)) rfl (hown.out.alloc _) ⟨wr.heap.size, 0, none⟩ 1 1 [.string ⟨(text t).toArray⟩] rfl rfl (cell_one_new _ _ _) ?_ ?_ ?_ ?_ ?_)
      · intro u hu
        simp at hu; subst hu; rfl
      · unfold maxLen; omega
      · omega
      · simp; have := hbel.out.size; omega
      · intro v' w3 hown3 hgrow3 _ _
        have hnb := fun k' hk' => (own_block_lt hown.out k' hk').1
        have hb3 : Below w.heap.size w w3 := by
          refine (hbel.out.alloc hbel.out.size _).grown hgrow3 (by have := hbel.out.size; simp; omega) (fun k' hk' => hnb k' hk')
        obtain ⟨A3, c3, rfl⟩ := own_shape hown3
        obtain ⟨g3, rfl, -⟩ := own_cells hown3 (Nat.succ_pos _)
        rw [← HT.out] at hown3
        have H3 := Lib.hid hown3
        have HB3 := Lib.hid hb3
        clear hown3 hgrow3 hb3
        go_wp2_with fail
        go_roundw
        case rel => exact ⟨k + 1, by omega, by go_num, ⟨_, _, rfl⟩, H3.out, HB3.out⟩
        case measure => simp [intOf]; omega
    · have hkl : k = l.length := by omega
      go_wp2_with fail
      go_ret
      subst hkl
      refine ⟨hbel.out, _, _, rfl, ?_⟩
      have := hown.out
      rw [List.take_of_length_le (Nat.le_refl _)] at this
      exact this

end Go.Proofs.YtopmkddmllmecaaGreatDoor
