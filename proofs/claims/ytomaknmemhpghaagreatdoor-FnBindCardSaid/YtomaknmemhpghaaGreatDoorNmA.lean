/- The names of a term in order. The model's l1Has, l1Insert and TermNames. -/
import Derived.Test.YtomaknmemhpghaaGreatDoorBsB
import Derived.Test.YtomaknmemhpghaaGreatDoorSpecK
import Derived.Sort.KeysCollected
import Derived.Test.YtomaknmemhpghaaGreatDoorKdB
import Derived.Test.YtomaknmemhpghaaGreatDoorDgC
/-! The names of a term in order. -/
namespace Go.Proofs.YtomaknmemhpghaaGreatDoor
open Go.RowKit Rt

theorem ltB_lt : ∀ a b : B, ltB a b = true ↔ a < b
  | a, [] => by cases a <;> simp [ltB]
  | [], b :: bs => by simp [ltB]
  | a :: xs, b :: bs => by
    rw [ltB, List.cons_lt_cons_iff, ← ltB_lt xs bs]
    by_cases h1 : a < b
    · simp [h1]
    · by_cases h2 : b < a
      · have h3 : a ≠ b := by rintro rfl; exact absurd h2 h1
        simp [h1, h2, h3]
      · have h3 : a = b := UInt8.le_antisymm (UInt8.not_lt.1 h2) (UInt8.not_lt.1 h1)
        subst h3
        simp

/-- A text put where it comes. -/
def putN (s : B) : List B → List B
  | [] => [s]
  | x :: l => if ltB x s = true then x :: putN s l else s :: x :: l

def insN (s : B) (l : List B) : List B := if s ∈ l then l else putN s l

def AscN (l : List B) : Prop := l.Pairwise fun a b => ltB a b = true

theorem putN_at (s : B) : ∀ (l : List B) (j : Nat), j ≤ l.length → (∀ i, i < j → ∀ u, l[i]? = some u → ltB u s = true) → (j = l.length ∨ ∃ u, l[j]? = some u ∧ ltB u s = false) →
    putN s l = l.take j ++ s :: l.drop j
  | [], j, h1, _, _ => by
    have : j = 0 := by simpa using h1
    subst this; rfl
  | u :: l, 0, _, _, h3 => by
    rcases h3 with h3 | ⟨x, hx, h3⟩
    · simp at h3
    · simp at hx; subst hx
      simp [putN, h3]
  | u :: l, j + 1, h1, h2, h3 => by
    have h4 := h2 0 (by omega) u rfl
    rw [putN, if_pos h4, putN_at s l j (by simpa using h1) (fun i hi x hx => h2 (i + 1) (by omega) x (by simpa using hx)) (by simpa using h3)]
    simp

theorem putN_mem (s x : B) : ∀ l : List B, x ∈ putN s l ↔ x = s ∨ x ∈ l
  | [] => by simp [putN]
  | u :: l => by
    rw [putN]
    split
    · rw [List.mem_cons, putN_mem s x l, List.mem_cons]
      constructor
      · rintro (h | h | h)
        · exact .inr (.inl h)
        · exact .inl h
        · exact .inr (.inr h)
      · rintro (h | h | h)
        · exact .inr (.inl h)
        · exact .inl h
        · exact .inr (.inr h)
    · rw [List.mem_cons]

theorem putN_asc (s : B) : ∀ l : List B, AscN l → s ∉ l → AscN (putN s l)
  | [], _, _ => by simp [putN, AscN]
  | u :: l, h, hs => by
    obtain ⟨h1, h2⟩ := List.pairwise_cons.1 h
    have hne : u ≠ s := by rintro rfl; exact hs (List.mem_cons_self ..)
    rw [putN]
    split
    · rename_i hlt
      refine List.pairwise_cons.2 ⟨fun y hy => ?_, putN_asc s l h2 (fun hh => hs (List.mem_cons_of_mem _ hh))⟩
      rcases (putN_mem s y l).1 hy with rfl | hy
      · exact hlt
      · exact h1 y hy
    · rename_i hlt
      have hsu : ltB s u = true := by
        cases hc : ltB s u
        · exact absurd (ltB_total u s (by simpa using hlt) hc) hne
        · rfl
      refine List.pairwise_cons.2 ⟨fun y hy => ?_, h⟩
      rcases List.mem_cons.1 hy with rfl | hy
      · exact hsu
      · exact ltB_trans s u y hsu (h1 y hy)

theorem putN_len (s : B) : ∀ l : List B, (putN s l).length = l.length + 1
  | [] => rfl
  | u :: l => by
    rw [putN]
    split
    · simp [putN_len s l]
    · simp

/-- The names among the first k texts, in order. -/
def nmTo (xs : List B) (k : Nat) : List B := (xs.take k).foldl (fun l s => if isName s = true then insN s l else l) []

theorem nmTo_succ (xs : List B) (k : Nat) (s : B) (h : xs[k]? = some s) : nmTo xs (k + 1) = if isName s = true then insN s (nmTo xs k) else nmTo xs k := by
  unfold nmTo
  rw [List.take_add_one, h, List.foldl_append]; rfl

/-- The names of a term, in order. -/
def nmL (t : Term) : List B := nmTo (atoms t) (atoms t).length

theorem nm_fold : ∀ (xs l : List B), AscN l → AscN (xs.foldl (fun l s => if isName s = true then insN s l else l) l) ∧ ∀ x, x ∈ xs.foldl (fun l s => if isName s = true then insN s l else l) l ↔ x ∈ l ∨ (x ∈ xs ∧ isName x = true)
  | [], l, h => ⟨h, by simp⟩
  | s :: xs, l, h => by
    rw [List.foldl_cons]
    by_cases hn : isName s = true
    · rw [if_pos hn]
      have hA : AscN (insN s l) := by
        unfold insN
        split
        · exact h
        · exact putN_asc s l h (by assumption)
      have hm : ∀ x, x ∈ insN s l ↔ x = s ∨ x ∈ l := by
        intro x
        unfold insN
        split
        · constructor
          · exact .inr
          · rintro (rfl | h)
            · assumption
            · exact h
        · exact putN_mem s x l
      obtain ⟨h1, h2⟩ := nm_fold xs _ hA
      refine ⟨h1, fun x => ?_⟩
      rw [h2 x, hm x, List.mem_cons]
      constructor
      · rintro ((rfl | h) | h)
        · exact .inr ⟨.inl rfl, hn⟩
        · exact .inl h
        · exact .inr ⟨.inr h.1, h.2⟩
      · rintro (h | ⟨rfl | h, hx⟩)
        · exact .inl (.inr h)
        · exact .inl (.inl rfl)
        · exact .inr ⟨h, hx⟩
    · rw [if_neg hn]
      obtain ⟨h1, h2⟩ := nm_fold xs l h
      refine ⟨h1, fun x => ?_⟩
      rw [h2 x, List.mem_cons]
      constructor
      · rintro (h | h)
        · exact .inl h
        · exact .inr ⟨.inr h.1, h.2⟩
      · rintro (h | ⟨rfl | h, hx⟩)
        · exact .inl h
        · exact absurd hx hn
        · exact .inr ⟨h, hx⟩

theorem nmTo_mem (xs : List B) (k : Nat) (x : B) (h : x ∈ nmTo xs k) : isName x = true := by
  have := ((nm_fold (xs.take k) [] List.Pairwise.nil).2 x).1 h
  simp at this
  exact this.2

theorem nmTo_len (xs : List B) (k : Nat) : (nmTo xs k).length ≤ k := by
  induction k with
  | zero => simp [nmTo]
  | succ k ih =>
    cases h : xs[k]? with
    | none =>
      have : nmTo xs (k + 1) = nmTo xs k := by unfold nmTo; rw [List.take_add_one, h]; simp
      rw [this]; omega
    | some s =>
      rw [nmTo_succ xs k s h]
      split
      · unfold insN
        split
        · omega
        · rw [putN_len]; omega
      · omega

theorem nmL_asc (t : Term) : AscN (nmL t) := (nm_fold _ [] List.Pairwise.nil).1

theorem nmL_mem (j : Nat) (t : Term) (h : ok j t = true) (x : B) : x ∈ nmL t ↔ x ∈ names t := by
  rw [← names_atoms j t h, List.mem_filter]
  have := (nm_fold ((atoms t).take (atoms t).length) [] List.Pairwise.nil).2 x
  rw [List.take_length] at this
  unfold nmL nmTo
  rw [List.take_length, this]
  simp

theorem nmL_nodup (t : Term) : (nmL t).Nodup := by
  refine (nmL_asc t).imp fun {a b} h e => ?_
  subst e
  rw [ltB_irrefl] at h
  cases h

theorem nmL_sort (t : Term) (ss : List B) (h : ss.Perm (nmL t)) : ss.mergeSort Go.leB = nmL t := by
  rw [mergeSort_of_perm h]
  refine List.mergeSort_of_pairwise ((nmL_asc t).imp fun {a b} h => ?_)
  simp only [Go.leB, decide_eq_true_eq]
  exact List.le_of_lt ((ltB_lt a b).1 h)

theorem nmL_len (t : Term) : (nmL t).length ≤ size t := Nat.le_trans (nmTo_len _ _) (atoms_len t)

mutual
theorem atoms_short : ∀ (j : Nat) (t : Term), ok j t = true → ∀ s ∈ atoms t, s.length ≤ 3
  | j, .nm s, h, x, hx => by rw [ok] at h; simp [atoms] at hx; subst hx; exact name_len x h
  | j, .ix n, h, x, hx => by
    simp only [ok, decide_eq_true_eq] at h
    simp [atoms] at hx
    subst hx
    have hd : ∀ n, n < 100 → (dec n).length ≤ 3 := by decide +kernel
    exact hd n h.2
  | j, .lam t, h, x, hx => by rw [ok] at h; exact atoms_short (j + 1) t h x hx
  | j, .app t b, h, x, hx => by
    rw [ok, Bool.and_eq_true] at h
    rw [atoms, List.mem_append] at hx
    rcases hx with hx | hx
    · exact atoms_short j t h.1 x hx
    · exact atomsL_short j b h.2 x hx
theorem atomsL_short : ∀ (j : Nat) (b : List Term), oks j b = true → ∀ s ∈ atomsL b, s.length ≤ 3
  | j, [], _, x, hx => by simp [atomsL] at hx
  | j, t :: l, h, x, hx => by
    rw [oks, Bool.and_eq_true] at h
    rw [atomsL, List.mem_append] at hx
    rcases hx with hx | hx
    · exact atoms_short j t h.1 x hx
    · exact atomsL_short j l h.2 x hx
end

def bys (l : List B) : List ByteArray := l.map fun s => ⟨s.toArray⟩

theorem strv_bys (l : List B) : strv (bys l) = sv_ l := by simp [strv, bys, sv_]
theorem bys_len (l : List B) : (bys l).length = l.length := by simp [bys]

/-- What TermNames tells. -/
def namesRes (l : B) : List ByteArray × Bool := match termOf l with
  | some t => (bys (nmL t), true)
  | none => ([], false)

theorem namesRes_len (l : B) : (namesRes l).1.length ≤ 1000000 := by
  unfold namesRes
  cases h : termOf l with
  | none => simp
  | some t =>
    have h1 := (termOf_ok l t h).2
    have h2 := nmL_len t
    show (bys (nmL t)).length ≤ _
    rw [bys_len]
    omega

end Go.Proofs.YtomaknmemhpghaaGreatDoor

/-! The model's l1Has, l1Insert and TermNames. -/
set_option linter.unusedSimpArgs false
set_option linter.unusedVariables false
namespace Go.Proofs.YtomaknmemhpghaaGreatDoor
open Go.RowKit Rt Go.Lib

/-- A row of texts that is the call's own. -/
def OwnT (w : World) (Bb g c : Nat) (l : List B) : Prop := w.ownsRow Bb 9 1 (.slice (some ⟨g, 0, none⟩) l.length c) l.length (sv_ l)

theorem OwnT.at {w : World} {B g c : Nat} {l : List Rt.B} (h : OwnT w B g c l) (j : Nat) (s : Rt.B) (hs : l[j]? = some s) : w.cell? ⟨g, j, none⟩ = some (.string ⟨s.toArray⟩) := by
  have := World.ownsRow.cells h (g := g) rfl j (.string ⟨s.toArray⟩) (by unfold sv_; rw [List.getElem?_map, hs]; rfl)
  rw [Addr.add_lit, Nat.zero_add] at this
  exact this

theorem OwnT.go {w w' : World} {B g c : Nat} {l : List Rt.B} (h : OwnT w B g c l) (hb : Below w.heap.size w w') : OwnT w' B g c l := own_go h hb

theorem own_cap {w : World} {B g c : Nat} {l : List Rt.B} (h : OwnT w B g c l) : l.length ≤ c ∧ c ≤ maxLen := by
  rcases h.2 with ⟨h', _⟩ | ⟨g', cap', cur, h', _, _, hnc, hcm, _⟩
  · simp at h'
  · injection h' with _ _ e
    subst e
    exact ⟨hnc, hcm⟩

set_option maxHeartbeats 1600000 in
set_option maxRecDepth 100000 in
theorem l1Has_any (Bb g c : Nat) (l : List B) (s : B) (w : World) (hl : l.length ≤ 1000) (hown : OwnT w Bb g c l) :
    Calls Tryz.prog 108 #[.slice (some ⟨g, 0, none⟩) l.length c, .string ⟨s.toArray⟩] w fun e w' => e = .returned (.bool (decide (s ∈ l))) ∧ w = w' := by
  have H3 := Lib.hid hown
  clear hown
  go_enter Tryz.func108, Tryz.ntmps108
  go_wp2_with fail
  go_loop [5] (fun iv => ∃ k : Nat, k ≤ l.length ∧ iv = .int .i64 k ∧ Hid (s ∉ l.take k)) (fun iv => l.length - (intOf iv).toNat)
  case atStart => exact ⟨0, Nat.zero_le _, rfl, by show s ∉ _; simp⟩
  case round =>
    obtain ⟨k, hk, rfl, hno⟩ := hrel
    by_cases hlt : k < l.length
    · obtain ⟨u, hu⟩ : ∃ u, l[k]? = some u := ⟨_, List.getElem?_eq_getElem hlt⟩
      have e0 := H3.out.at k u hu
      by_cases hq : u = s
      · have hq1 : (u == s) = true := by simp [hq]
        have HM : Hid (decide (s ∈ l) = true) := by show _ = _; rw [decide_eq_true_eq, ← hq]; exact List.mem_of_getElem? hu
        clear hq hu
        go_wp2_with fail
        go_ret
        exact ⟨by rw [HM.out]; rfl, rfl⟩
      · have hq1 : (u == s) = false := by simpa using hq
        have HN : Hid (s ∉ l.take (k + 1)) := by
          show s ∉ _
          rw [List.take_add_one, hu, List.mem_append]
          rintro (h | h)
          · exact hno.out h
          · simp at h; exact hq h.symm
        clear hq hu
        go_wp2_with fail
        go_round
        case rel => exact ⟨k + 1, by omega, by go_num, HN.out⟩
        case measure => simp [intOf]; omega
    · obtain rfl : k = l.length := by omega
      have HM : Hid (decide (s ∈ l) = false) := by
        show _ = _
        have := hno.out
        rw [List.take_length] at this
        simpa using this
      go_wp2_with fail
      go_ret
      exact ⟨by rw [HM.out]; rfl, rfl⟩

/-- What l1Insert does. -/
def InsPost (w : World) (Bb : Nat) (r : List B) (e : Ending) (w' : World) : Prop :=
  Below w.heap.size w w' ∧ ∃ g c, e = .returned (.slice (some ⟨g, 0, none⟩) r.length c) ∧ OwnT w' Bb g c r

theorem sv_done (l : List B) (s : B) (j : Nat) : sv_ (l.take j ++ s :: l.drop j) = (sv_ l).take j ++ [.string ⟨s.toArray⟩] ++ (sv_ l).drop j := by
  unfold sv_
  simp only [List.map_append, List.map_cons, List.map_take, List.map_drop, List.append_assoc, List.singleton_append]

theorem sv_one (l : List B) (u : Value) (h : u ∈ sv_ l) : u.oneCell' = true := by
  unfold sv_ at h
  obtain ⟨y, _, rfl⟩ := List.mem_map.1 h
  rfl

set_option maxHeartbeats 3200000 in
set_option maxRecDepth 100000 in
theorem l1Insert_any (Bb g c : Nat) (l : List B) (s : B) (w : World) (hl : l.length ≤ 1000) (hs : s.length ≤ 10) (hls : ∀ u ∈ l, u.length ≤ 10) (hB : Bb ≤ w.heap.size) (hown : OwnT w Bb g c l) :
    Calls Tryz.prog 77 #[.slice (some ⟨g, 0, none⟩) l.length c, .string ⟨s.toArray⟩] w (InsPost w Bb (insN s l)) := by
  obtain ⟨i1, hi1, hy0, hy1, hy2⟩ := info_parts str_info
  have HOWN := Lib.hid hown
  have HLS := Lib.hid hls
  have HHAS := Lib.hid (l1Has_any Bb g c l s w hl hown)
  have HPL : Hid ((putN s l).length = l.length + 1) := putN_len s l
  have hlc : l.length ≤ c ∧ c ≤ maxLen := own_cap hown
  have hlc' := hlc.2
  replace hlc := hlc.1
  unfold maxLen at hlc'
  clear hown hls
  by_cases hmem : s ∈ l
  · have HIN : Hid (insN s l = l) := by show _ = _; unfold insN; rw [if_pos hmem]
    have hd : decide (s ∈ l) = true := by simpa using hmem
    rw [hd] at HHAS
    clear hmem hd
    go_enter Tryz.func77, Tryz.ntmps77
    go_wp2_with fail
    refine HHAS.out.mono ?_
    rintro e w2 ⟨rfl, rfl⟩
    go_wp2_with fail
    go_ret
    exact ⟨Below.refl _ _, g, c, by rw [HIN.out]; rfl, by rw [HIN.out]; exact HOWN.out⟩
  · have HIN : Hid (insN s l = putN s l) := by show _ = _; unfold insN; rw [if_neg hmem]
    have hd : decide (s ∈ l) = false := by simpa using hmem
    rw [hd] at HHAS
    clear hmem hd
    go_enter Tryz.func77, Tryz.ntmps77
    go_wp2_with fail
    refine HHAS.out.mono ?_
    rintro e w2 ⟨rfl, rfl⟩
    go_wp2_with fail
    go_loopw [5] (fun v wq => ∃ j : Nat, j ≤ l.length ∧ v = .int .i64 j ∧ Hid (∀ i, i < j → ∀ z, l[i]? = some z → ltB z s = true) ∧ Hid (Below w.heap.size w wq) ∧ Hid (OwnT wq Bb g c l)) (fun v _ => l.length - (intOf v).toNat)
    case atStart => exact ⟨0, Nat.zero_le _, rfl, fun i hi => absurd hi (by omega), Below.refl _ _, HOWN.out⟩
    case round =>
      obtain ⟨j, hj, rfl, hall, hbel, hownr⟩ := hrel
      obtain ⟨wo, rfl⟩ : ∃ wo : World, wo = wr := ⟨_, rfl⟩
      by_cases hjk : j < l.length
      · obtain ⟨z, hz⟩ : ∃ z, l[j]? = some z := ⟨_, List.getElem?_eq_getElem hjk⟩
        have cz := hownr.out.at j z hz
        have hzl := HLS.out z (List.mem_of_getElem? hz)
        have HZ := Lib.hid hz
        clear hz
        go_wp2_with fail
        refine (l1Less_any ⟨z.toArray⟩ ⟨s.toArray⟩ _ (by simp [ByteArray.size, maxLen]; omega) (by simp [ByteArray.size, maxLen]; omega)).mono ?_
        rintro e w5 ⟨rfl, hD5⟩
        rw [show ltB (⟨z.toArray⟩ : ByteArray).data.toList (⟨s.toArray⟩ : ByteArray).data.toList = ltB z s from rfl]
        have hb5 := hD5.below wo.heap.size
        have HB5 := Lib.hid (hbel.out.trans (hb5.mono hbel.out.size))
        have HO5 : Hid (OwnT w5 Bb g c l) := OwnT.go hownr.out hb5
        clear hb5 hD5 cz
        cases hlt : ltB z s
        · have HINS : Hid (putN s l = l.take j ++ s :: l.drop j) := putN_at s l j hj hall.out (.inr ⟨z, HZ.out, hlt⟩)
          clear hlt
          have HRT : Hid (∀ W, Below w5.heap.size w5 W → Reads W w5.heap.size 1 (some ⟨g, 0, none⟩) j ((sv_ l).take j)) := fun W hW => by simpa using reads_take HO5.out (Drew.refl _) hW hj
          have HRD : Hid (∀ W, Below w5.heap.size w5 W → Reads W w5.heap.size 1 (if c = j then some ⟨g, 0, none⟩ else some ⟨g, j, none⟩) (l.length - j) ((sv_ l).drop j)) := fun W hW => by simpa using reads_drop HO5.out (Drew.refl _) hW hj hlc
          have HO1 : Hid (∀ u ∈ (sv_ l).take j, u.oneCell' = true) := fun u hu => sv_one l u (List.mem_of_mem_take hu)
          have HO2 : Hid (∀ u ∈ (sv_ l).drop j, u.oneCell' = true) := fun u hu => sv_one l u (List.mem_of_mem_drop hu)
          have HOneC : Hid (∀ q ∈ [Value.string ⟨s.toArray⟩], q.oneCell' = true) := fun q hq => by simp at hq; subst hq; rfl
          have hBWs := HB5.out.size
          have hjc : j ≤ c := by omega
          go_upto_region 6 with fail
          go_region_law (first
            | (refine step_append_any _ rfl (.tmp 24) (.tmp 27) 29 rfl w5.heap.size 9 i1 (.string ⟨#[]⟩) 1 16 Tryz.underlying29 hi1 hy0 hy1 hy2 rfl (Nat.succ_pos 0) (.slice (some ⟨w5.heap.size, 0, none⟩) 0 0) 0 [] (by simp [Act.eval, Act.put]; try omega) (own_of_blk (Blk.new w5.drew 9 #[]) (Nat.le_refl _) rfl (by decide) rfl) w5.heap.size (some ⟨g, 0, none⟩) j c ((sv_ l).take j) (by simp [Act.eval, Act.put]; try omega) (HRT.out _ (by go_grown)) HO1.out (by unfold maxLen; omega) (by omega) (by simp; try omega) ?_; intro v1 w1 hown1 hg1 hat1; have hB1 : Below w5.heap.size w5 w1 := Below.grown (by go_grown) hg1 (by simp; try omega) (by intro q hq; simp [Value.ownBlock] at hq; omega))
            | (refine step_append_any _ rfl (.tmp 24) (.tmp 27) 29 rfl w5.heap.size 9 i1 (.string ⟨#[]⟩) 1 16 Tryz.underlying29 hi1 hy0 hy1 hy2 rfl (Nat.succ_pos 0) (.slice (some ⟨w5.heap.size, 0, none⟩) 0 0) 0 [] (by simp [Act.eval, Act.put]; try omega) (own_of_blk ((Blk.new w5.drew 9 #[]).alloc _) (Nat.le_refl _) rfl (by decide) rfl) w5.heap.size (some ⟨g, 0, none⟩) j c ((sv_ l).take j) (by simp [Act.eval, Act.put]; try omega) (HRT.out _ (by go_grown)) HO1.out (by unfold maxLen; omega) (by omega) (by simp; try omega) ?_; intro v1 w1 hown1 hg1 hat1; have hB1 : Below w5.heap.size w5 w1 := Below.grown (by go_grown) hg1 (by simp; try omega) (by intro q hq; simp [Value.ownBlock] at hq; omega); have hX6 : Blk w1 (w5.heap.size + 1) 9 #[.string ⟨s.toArray⟩] := (blk_second w5.drew _ 9 #[.string ⟨s.toArray⟩]).grown hg1 (by simp [Value.ownBlock]))
            | (refine step_append_any _ rfl (.tmp 24) (.tmp 27) 29 rfl w5.heap.size 9 i1 (.string ⟨#[]⟩) 1 16 Tryz.underlying29 hi1 hy0 hy1 hy2 rfl (Nat.succ_pos 0) (.slice (some ⟨(w5.heap.size + 1), 0, none⟩) 0 0) 0 [] (by simp [Act.eval, Act.put]; try omega) (own_of_blk (blk_second w5.drew _ 9 #[]) (by omega) rfl (by decide) rfl) w5.heap.size (some ⟨g, 0, none⟩) j c ((sv_ l).take j) (by simp [Act.eval, Act.put]; try omega) (HRT.out _ (by go_grown)) HO1.out (by unfold maxLen; omega) (by omega) (by simp; try omega) ?_; intro v1 w1 hown1 hg1 hat1; have hB1 : Below w5.heap.size w5 w1 := Below.grown (by go_grown) hg1 (by simp; try omega) (by intro q hq; simp [Value.ownBlock] at hq; omega); have hX6 : Blk w1 w5.heap.size 9 #[.string ⟨s.toArray⟩] := ((Blk.new w5.drew 9 #[.string ⟨s.toArray⟩]).alloc _).grown hg1 (by simp [Value.ownBlock]))
            | (refine step_append_any _ rfl (.tmp 28) (.tmp 30) 29 rfl w5.heap.size 9 i1 (.string ⟨#[]⟩) 1 16 Tryz.underlying29 hi1 hy0 hy1 hy2 rfl (Nat.succ_pos 0) v1 (0 + j) ([] ++ ((sv_ l).take j)) (by simp [Act.eval, Act.put]; try omega) (hown1.alloc _) _ (some ⟨w1.heap.size, 0, none⟩) 1 1 [.string ⟨s.toArray⟩] (by simp [Act.eval, Act.put]; try omega) (reads_blk (Blk.new w1 9 #[.string ⟨s.toArray⟩]) rfl rfl) HOneC.out (by unfold maxLen; omega) (by omega) (by have := hB1.size; simp; try omega) ?_; intro v2 w2 hown2 hg2 hat2; have hB2 : Below w5.heap.size w5 w2 := Below.grown (by first | exact hB1 | exact hB1.alloc hB1.size _) hg2 (by have := hB1.size; simp; try omega) (by intro q hq; exact (own_block_lt hown1 q hq).1))
            | (refine step_append_any _ rfl (.tmp 28) (.tmp 30) 29 rfl w5.heap.size 9 i1 (.string ⟨#[]⟩) 1 16 Tryz.underlying29 hi1 hy0 hy1 hy2 rfl (Nat.succ_pos 0) v1 (0 + j) ([] ++ ((sv_ l).take j)) (by simp [Act.eval, Act.put]; try omega) hown1 _ (some ⟨(w5.heap.size + 1), 0, none⟩) 1 1 [.string ⟨s.toArray⟩] (by simp [Act.eval, Act.put]; try omega) (reads_blk hX6 rfl rfl) HOneC.out (by unfold maxLen; omega) (by omega) (by have := hB1.size; simp; try omega) ?_; intro v2 w2 hown2 hg2 hat2; have hB2 : Below w5.heap.size w5 w2 := Below.grown (by first | exact hB1 | exact hB1.alloc hB1.size _) hg2 (by have := hB1.size; simp; try omega) (by intro q hq; exact (own_block_lt hown1 q hq).1))
            | (refine step_append_any _ rfl (.tmp 28) (.tmp 30) 29 rfl w5.heap.size 9 i1 (.string ⟨#[]⟩) 1 16 Tryz.underlying29 hi1 hy0 hy1 hy2 rfl (Nat.succ_pos 0) v1 (0 + j) ([] ++ ((sv_ l).take j)) (by simp [Act.eval, Act.put]; try omega) hown1 _ (some ⟨w5.heap.size, 0, none⟩) 1 1 [.string ⟨s.toArray⟩] (by simp [Act.eval, Act.put]; try omega) (reads_blk hX6 rfl rfl) HOneC.out (by unfold maxLen; omega) (by omega) (by have := hB1.size; simp; try omega) ?_; intro v2 w2 hown2 hg2 hat2; have hB2 : Below w5.heap.size w5 w2 := Below.grown (by first | exact hB1 | exact hB1.alloc hB1.size _) hg2 (by have := hB1.size; simp; try omega) (by intro q hq; exact (own_block_lt hown1 q hq).1))
            | (refine step_append_any _ rfl (.tmp 31) (.tmp 34) 29 rfl w5.heap.size 9 i1 (.string ⟨#[]⟩) 1 16 Tryz.underlying29 hi1 hy0 hy1 hy2 rfl (Nat.succ_pos 0) v2 (0 + j + 1) ([] ++ ((sv_ l).take j) ++ [.string ⟨s.toArray⟩]) (by simp [Act.eval, Act.put]; try omega) hown2 w5.heap.size (if c = j then some ⟨g, 0, none⟩ else some ⟨g, j, none⟩) (l.length - j) (c - j) ((sv_ l).drop j) (by simp [Act.eval, Act.put]; try omega) (HRD.out _ hB2) HO2.out (by unfold maxLen; omega) (by omega) hB2.size ?_; intro v3 w3 hown3 hg3 hat3; have hB3 : Below w5.heap.size w5 w3 := Below.grown hB2 hg3 hB2.size (by intro q hq; exact (own_block_lt hown2 q hq).1)))
          all_goals
            obtain ⟨g3, d3, hv3, hd3, ho3⟩ := own_done hown3 hj (ts := sv_ (putN s l)) (by rw [HINS.out]; exact sv_done l s _)
            subst hv3
            rw [← HPL.out] at ho3
            have HB3 := Lib.hid (HB5.out.trans (hB3.mono hBWs))
            have HO3 := Lib.hid (own_mono ho3 (base' := Bb) (by omega))
            clear hown1 hown2 hown3 hg1 hg2 hg3 hB1 hB2 hB3 hat1 hat2 hat3 ho3
            go_wp2_with fail
            all_goals
              go_ret
              exact ⟨HB3.out, g3, d3, by rw [HIN.out, HPL.out]; rfl, by rw [HIN.out]; exact HO3.out⟩
        · have HLT := Lib.hid hlt
          clear hlt
          go_wp2_with fail
          go_roundw
          case rel =>
            refine ⟨j + 1, by omega, by go_num, ?_, HB5.out, HO5.out⟩
            intro i hi q hq
            by_cases hij : i = j
            · subst hij
              rw [HZ.out] at hq
              injection hq with hq
              rw [← hq]; exact HLT.out
            · exact hall.out i (by omega) q hq
          case measure => simp [intOf]; omega
      · obtain rfl : j = l.length := by omega
        have HINS : Hid (putN s l = l.take l.length ++ s :: l.drop l.length) := putN_at s l l.length hj hall.out (.inl rfl)
        have HRT : Hid (∀ W, Below wo.heap.size wo W → Reads W wo.heap.size 1 (some ⟨g, 0, none⟩) l.length ((sv_ l).take l.length)) := fun W hW => by simpa using reads_take hownr.out (Drew.refl _) hW hj
        have HRD : Hid (∀ W, Below wo.heap.size wo W → Reads W wo.heap.size 1 (if c = l.length then some ⟨g, 0, none⟩ else some ⟨g, l.length, none⟩) (l.length - l.length) ((sv_ l).drop l.length)) := fun W hW => by simpa using reads_drop hownr.out (Drew.refl _) hW hj hlc
        have HO1 : Hid (∀ u ∈ (sv_ l).take l.length, u.oneCell' = true) := fun u hu => sv_one l u (List.mem_of_mem_take hu)
        have HO2 : Hid (∀ u ∈ (sv_ l).drop l.length, u.oneCell' = true) := fun u hu => sv_one l u (List.mem_of_mem_drop hu)
        have HOneC : Hid (∀ q ∈ [Value.string ⟨s.toArray⟩], q.oneCell' = true) := fun q hq => by simp at hq; subst hq; rfl
        have hBWs := hbel.out.size
        have hjc : l.length ≤ c := by omega
        go_upto_region 6 with fail
        go_region_law (first
          | (refine step_append_any _ rfl (.tmp 24) (.tmp 27) 29 rfl wo.heap.size 9 i1 (.string ⟨#[]⟩) 1 16 Tryz.underlying29 hi1 hy0 hy1 hy2 rfl (Nat.succ_pos 0) (.slice (some ⟨wo.heap.size, 0, none⟩) 0 0) 0 [] (by simp [Act.eval, Act.put]; try omega) (own_of_blk (Blk.new wo.drew 9 #[]) (Nat.le_refl _) rfl (by decide) rfl) wo.heap.size (some ⟨g, 0, none⟩) l.length c ((sv_ l).take l.length) (by simp [Act.eval, Act.put]; try omega) (HRT.out _ (by go_grown)) HO1.out (by unfold maxLen; omega) (by omega) (by simp; try omega) ?_; intro v1 w1 hown1 hg1 hat1; have hB1 : Below wo.heap.size wo w1 := Below.grown (by go_grown) hg1 (by simp; try omega) (by intro q hq; simp [Value.ownBlock] at hq; omega))
          | (refine step_append_any _ rfl (.tmp 24) (.tmp 27) 29 rfl wo.heap.size 9 i1 (.string ⟨#[]⟩) 1 16 Tryz.underlying29 hi1 hy0 hy1 hy2 rfl (Nat.succ_pos 0) (.slice (some ⟨wo.heap.size, 0, none⟩) 0 0) 0 [] (by simp [Act.eval, Act.put]; try omega) (own_of_blk ((Blk.new wo.drew 9 #[]).alloc _) (Nat.le_refl _) rfl (by decide) rfl) wo.heap.size (some ⟨g, 0, none⟩) l.length c ((sv_ l).take l.length) (by simp [Act.eval, Act.put]; try omega) (HRT.out _ (by go_grown)) HO1.out (by unfold maxLen; omega) (by omega) (by simp; try omega) ?_; intro v1 w1 hown1 hg1 hat1; have hB1 : Below wo.heap.size wo w1 := Below.grown (by go_grown) hg1 (by simp; try omega) (by intro q hq; simp [Value.ownBlock] at hq; omega); have hX6 : Blk w1 (wo.heap.size + 1) 9 #[.string ⟨s.toArray⟩] := (blk_second wo.drew _ 9 #[.string ⟨s.toArray⟩]).grown hg1 (by simp [Value.ownBlock]))
          | (refine step_append_any _ rfl (.tmp 24) (.tmp 27) 29 rfl wo.heap.size 9 i1 (.string ⟨#[]⟩) 1 16 Tryz.underlying29 hi1 hy0 hy1 hy2 rfl (Nat.succ_pos 0) (.slice (some ⟨(wo.heap.size + 1), 0, none⟩) 0 0) 0 [] (by simp [Act.eval, Act.put]; try omega) (own_of_blk (blk_second wo.drew _ 9 #[]) (by omega) rfl (by decide) rfl) wo.heap.size (some ⟨g, 0, none⟩) l.length c ((sv_ l).take l.length) (by simp [Act.eval, Act.put]; try omega) (HRT.out _ (by go_grown)) HO1.out (by unfold maxLen; omega) (by omega) (by simp; try omega) ?_; intro v1 w1 hown1 hg1 hat1; have hB1 : Below wo.heap.size wo w1 := Below.grown (by go_grown) hg1 (by simp; try omega) (by intro q hq; simp [Value.ownBlock] at hq; omega); have hX6 : Blk w1 wo.heap.size 9 #[.string ⟨s.toArray⟩] := ((Blk.new wo.drew 9 #[.string ⟨s.toArray⟩]).alloc _).grown hg1 (by simp [Value.ownBlock]))
          | (refine step_append_any _ rfl (.tmp 28) (.tmp 30) 29 rfl wo.heap.size 9 i1 (.string ⟨#[]⟩) 1 16 Tryz.underlying29 hi1 hy0 hy1 hy2 rfl (Nat.succ_pos 0) v1 (0 + l.length) ([] ++ ((sv_ l).take l.length)) (by simp [Act.eval, Act.put]; try omega) (hown1.alloc _) _ (some ⟨w1.heap.size, 0, none⟩) 1 1 [.string ⟨s.toArray⟩] (by simp [Act.eval, Act.put]; try omega) (reads_blk (Blk.new w1 9 #[.string ⟨s.toArray⟩]) rfl rfl) HOneC.out (by unfold maxLen; omega) (by omega) (by have := hB1.size; simp; try omega) ?_; intro v2 w2 hown2 hg2 hat2; have hB2 : Below wo.heap.size wo w2 := Below.grown (by first | exact hB1 | exact hB1.alloc hB1.size _) hg2 (by have := hB1.size; simp; try omega) (by intro q hq; exact (own_block_lt hown1 q hq).1))
          | (refine step_append_any _ rfl (.tmp 28) (.tmp 30) 29 rfl wo.heap.size 9 i1 (.string ⟨#[]⟩) 1 16 Tryz.underlying29 hi1 hy0 hy1 hy2 rfl (Nat.succ_pos 0) v1 (0 + l.length) ([] ++ ((sv_ l).take l.length)) (by simp [Act.eval, Act.put]; try omega) hown1 _ (some ⟨(wo.heap.size + 1), 0, none⟩) 1 1 [.string ⟨s.toArray⟩] (by simp [Act.eval, Act.put]; try omega) (reads_blk hX6 rfl rfl) HOneC.out (by unfold maxLen; omega) (by omega) (by have := hB1.size; simp; try omega) ?_; intro v2 w2 hown2 hg2 hat2; have hB2 : Below wo.heap.size wo w2 := Below.grown (by first | exact hB1 | exact hB1.alloc hB1.size _) hg2 (by have := hB1.size; simp; try omega) (by intro q hq; exact (own_block_lt hown1 q hq).1))
          | (refine step_append_any _ rfl (.tmp 28) (.tmp 30) 29 rfl wo.heap.size 9 i1 (.string ⟨#[]⟩) 1 16 Tryz.underlying29 hi1 hy0 hy1 hy2 rfl (Nat.succ_pos 0) v1 (0 + l.length) ([] ++ ((sv_ l).take l.length)) (by simp [Act.eval, Act.put]; try omega) hown1 _ (some ⟨wo.heap.size, 0, none⟩) 1 1 [.string ⟨s.toArray⟩] (by simp [Act.eval, Act.put]; try omega) (reads_blk hX6 rfl rfl) HOneC.out (by unfold maxLen; omega) (by omega) (by have := hB1.size; simp; try omega) ?_; intro v2 w2 hown2 hg2 hat2; have hB2 : Below wo.heap.size wo w2 := Below.grown (by first | exact hB1 | exact hB1.alloc hB1.size _) hg2 (by have := hB1.size; simp; try omega) (by intro q hq; exact (own_block_lt hown1 q hq).1))
          | (refine step_append_any _ rfl (.tmp 31) (.tmp 34) 29 rfl wo.heap.size 9 i1 (.string ⟨#[]⟩) 1 16 Tryz.underlying29 hi1 hy0 hy1 hy2 rfl (Nat.succ_pos 0) v2 (0 + l.length + 1) ([] ++ ((sv_ l).take l.length) ++ [.string ⟨s.toArray⟩]) (by simp [Act.eval, Act.put]; try omega) hown2 wo.heap.size (if c = l.length then some ⟨g, 0, none⟩ else some ⟨g, l.length, none⟩) (l.length - l.length) (c - l.length) ((sv_ l).drop l.length) (by simp [Act.eval, Act.put]; try omega) (HRD.out _ hB2) HO2.out (by unfold maxLen; omega) (by omega) hB2.size ?_; intro v3 w3 hown3 hg3 hat3; have hB3 : Below wo.heap.size wo w3 := Below.grown hB2 hg3 hB2.size (by intro q hq; exact (own_block_lt hown2 q hq).1)))
        all_goals
          obtain ⟨g3, d3, hv3, hd3, ho3⟩ := own_done hown3 hj (ts := sv_ (putN s l)) (by rw [HINS.out]; exact sv_done l s _)
          subst hv3
          rw [← HPL.out] at ho3
          have HB3 := Lib.hid (hbel.out.trans (hB3.mono hBWs))
          have HO3 := Lib.hid (own_mono ho3 (base' := Bb) (by omega))
          clear hown1 hown2 hown3 hg1 hg2 hg3 hB1 hB2 hB3 hat1 hat2 hat3 ho3
          go_wp2_with fail
          all_goals
            go_ret
            exact ⟨HB3.out, g3, d3, by rw [HIN.out, HPL.out]; rfl, by rw [HIN.out]; exact HO3.out⟩

set_option maxHeartbeats 1600000 in
set_option maxRecDepth 100000 in
theorem specTermNames (hBag : BagSaid) (s : ByteArray) (hs : s.size ≤ maxLen) (w : World) :
    Calls Tryz.prog 35 #[.string s] w (KidsPost w (namesRes s.data.toList)) := by
  have HC := Lib.hid (l1Term_any hBag s hs w)
  have HT : Hid (namesRes s.data.toList = match termOf s.data.toList with | some t => (bys (nmL t), true) | none => ([], false)) := rfl
  have HOK : Hid (∀ t, termOf s.data.toList = some t → ok 0 t = true ∧ size t ≤ 60) := fun t h => termOf_ok _ t h
  generalize namesRes s.data.toList = x at HT ⊢
  generalize termOf s.data.toList = r at HC HT HOK
  go_enter Tryz.func35, Tryz.ntmps35
  go_wp2_with fail
  refine HC.out.mono ?_
  intro e w2 hp
  cases r with
  | none =>
    obtain ⟨hb2, u, A, n, c, rfl⟩ := hp
    have hs2 := hb2.size
    have HB2 := Lib.hid hb2
    clear hb2
    go_wp2_with fail
    go_ret2
    exact KidsPost.mk [] HT.out rfl ((HB2.out.alloc hs2 _).alloc (by simp; omega) _) (B := w.heap.size) (Nat.le_refl _) (own_new _ 9 #[] 0 1 w.heap.size (by simp; omega) rfl (by decide)) (by simp)
  | some T =>
    obtain ⟨hb2, v, rfl, hr⟩ := hp
    obtain ⟨u, A, n, c, rfl⟩ := repS_shape (RepSF.rep _ _ hr)
    obtain ⟨o1, o2⟩ := HOK.out T rfl
    have hs2 := hb2.size
    obtain ⟨la, hla⟩ : ∃ la, la = atoms T := ⟨_, rfl⟩
    have hll : la.length ≤ 60 := by have := atoms_len T; rw [hla]; omega
    have HSH : Hid (∀ a ∈ la, a.length ≤ 3) := by show ∀ a ∈ la, _; rw [hla]; exact atoms_short 0 T o1
    have HX : Hid (x = (bys (nmTo la la.length), true)) := by show _ = _; rw [hla]; exact HT.out
    obtain ⟨W1, hW1⟩ : ∃ W1, W1 = w2.alloc (.cells #[.string ⟨u.toArray⟩, .slice A n c] 55) := ⟨_, rfl⟩
    have hbx : Blk W1 w2.heap.size 55 #[.string ⟨u.toArray⟩, .slice A n c] := by rw [hW1]; exact Blk.new w2 _ _
    have hz1 : W1.heap.size = w2.heap.size + 1 := by rw [hW1]; simp
    have hb1 : Below w2.heap.size w2 W1 := by rw [hW1]; exact (Below.refl _ _).alloc (Nat.le_refl _) _
    obtain ⟨W2, hW2⟩ : ∃ W2, W2 = W1.alloc (.cells #[] 9) := ⟨_, rfl⟩
    have hz2 : W2.heap.size = w2.heap.size + 2 := by rw [hW2]; simp [hz1]
    have hb12 : Below w2.heap.size w2 W2 := by rw [hW2]; exact hb1.alloc hb1.size _
    have hbx2 : Blk W2 w2.heap.size 55 #[.string ⟨u.toArray⟩, .slice A n c] := by rw [hW2]; exact hbx.alloc _
    have how2 : OwnT W2 w.heap.size (w2.heap.size + 1) 0 [] := by
      have h := own_new W1 9 #[] 0 1 w.heap.size (by omega) rfl (by decide)
      rw [hz1, ← hW2] at h
      exact h
    obtain ⟨W3, hW3⟩ : ∃ W3, W3 = W2.alloc (.cells #[] 9) := ⟨_, rfl⟩
    have hz3 : W3.heap.size = w2.heap.size + 3 := by rw [hW3]; simp [hz2]
    have hb13 : Below w2.heap.size w2 W3 := by rw [hW3]; exact hb12.alloc hb12.size _
    have how3 : OwnT W3 w.heap.size (w2.heap.size + 1) 0 [] := by
      rw [hW3]; exact how2.go ((Below.refl _ _).alloc (Nat.le_refl _) _)
    have hat3 : OwnT W3 w2.heap.size (w2.heap.size + 2) 0 [] := by
      have h := own_new W2 9 #[] 0 1 w2.heap.size (by omega) rfl (by decide)
      rw [hz2, ← hW3] at h
      exact h
    have HA := Lib.hid (l1Atoms_any w2.heap.size 60 T (.agg #[.string ⟨u.toArray⟩, .slice A n c]) [] (w2.heap.size + 2) 0 W3 o2 (by simp; omega) (by omega) (RepSF.move (fun k hk hk2 => hb13.block k hk2) (fun k _ hk => hk) _ _ hr) hat3)
    rw [List.nil_append, ← hla] at HA
    have HA' : Hid (Calls Tryz.prog 76 #[.agg #[.string ⟨u.toArray⟩, .slice A n c], .slice (some ⟨w2.heap.size + 2, 0, none⟩) 0 0] W3 (AtomsPost w2.heap.size W3 (w2.heap.size + 2) la)) := HA.out
    obtain ⟨p0, p1, _, _⟩ := blk_cells hbx2
    have HB13 := Lib.hid (hb2.trans (hb13.mono hs2))
    have HO3 := Lib.hid how3
    clear hb2 hr hb1 hb12 hb13 hbx hbx2 how2 how3 hat3 HA o1 hla
    go_wp2_with fail
    rw [← hW1, ← hW2, ← hW3, show w2.heap.size + 1 + 1 = w2.heap.size + 2 from rfl]
    refine HA'.out.mono ?_
    rintro e w4 ⟨hg4, ga, ca, rfl, hown4, hat4⟩
    have HB4 : Hid (Below w.heap.size w w4) := Below.grown HB13.out hg4 HB13.out.size (fun k hk => by injection hk with hk; omega)
    have HO4 : Hid (OwnT w4 w.heap.size (w2.heap.size + 1) 0 []) := World.ownsRow.kept HO3.out hg4 (.inr (by simp [Value.ownBlock]))
    have HL4 : Hid (OwnT w4 w2.heap.size ga ca la) := hown4
    clear hg4 hown4 hat4 hW1 hW2 hW3 p0 p1
    go_wp2_with fail
    go_loopw [6, 8] (fun ov iv wr => ∃ k g1 c1 : Nat, k ≤ la.length ∧ iv = .int .i64 k ∧ ov = .slice (some ⟨g1, 0, none⟩) (nmTo la k).length c1 ∧ Hid (OwnT wr w.heap.size g1 c1 (nmTo la k)) ∧ Hid (OwnT wr w2.heap.size ga ca la) ∧ Hid (Below w.heap.size w wr)) (fun _ iv _ => la.length - (intOf iv).toNat)
    case atStart => exact ⟨0, w2.heap.size + 1, 0, Nat.zero_le _, rfl, rfl, HO4.out, HL4.out, HB4.out⟩
    case round =>
      obtain ⟨k, g1, c1, hk, rfl, rfl, hout, hla4, hbel⟩ := hrel
      by_cases hlt : k < la.length
      · obtain ⟨a, ha⟩ : ∃ a, la[k]? = some a := ⟨_, List.getElem?_eq_getElem hlt⟩
        have e0 := hla4.out.at k a ha
        have hal := HSH.out a (List.mem_of_getElem? ha)
        have HS1 := Lib.hid (nmTo_succ la k a ha)
        have HN : Hid (∀ W, Calls Tryz.prog 66 #[.string ⟨a.toArray⟩] W fun e w' => e = .returned (.bool (isName a)) ∧ W = w') := fun W => l1Name_any ⟨a.toArray⟩ W (by simp [ByteArray.size, maxLen]; omega)
        have hnl := nmTo_len la k
        have HINS : Hid (Calls Tryz.prog 77 #[.slice (some ⟨g1, 0, none⟩) (nmTo la k).length c1, .string ⟨a.toArray⟩] wr (InsPost wr w.heap.size (insN a (nmTo la k)))) := l1Insert_any w.heap.size g1 c1 (nmTo la k) a wr (by omega) (by omega) (fun z hz => by have := name_len z (nmTo_mem la k z hz); omega) hbel.out.size hout.out
        clear ha
        cases hnm : isName a
        · rw [hnm] at HN
          have HS2 : Hid (nmTo la (k + 1) = nmTo la k) := by show _ = _; rw [HS1.out, hnm]; rfl
          clear HINS HS1 hnm
          go_wp2_with (go_at_call 66; refine (HN.out _).mono ?_; rintro e w' ⟨rfl, rfl⟩)
          go_roundw
          case rel => exact ⟨k + 1, g1, c1, by omega, by go_num, by rw [HS2.out], by show OwnT _ _ _ _ _; rw [HS2.out]; exact hout.out, hla4.out, hbel.out⟩
          case measure => simp [intOf]; omega
        · rw [hnm] at HN
          have HS2 : Hid (nmTo la (k + 1) = insN a (nmTo la k)) := by show _ = _; rw [HS1.out, hnm]; rfl
          rw [← HS2.out] at HINS
          clear HS1 hnm
          go_wp2_with (first
            | (go_at_call 66; refine (HN.out _).mono ?_; rintro e w' ⟨rfl, rfl⟩)
            | (go_at_call 77; refine HINS.out.mono ?_; rintro e w5 ⟨hb5, g5, c5, rfl, ho5⟩; have HB5 := Lib.hid (hbel.out.trans (hb5.mono hbel.out.size)); have HO5 := Lib.hid ho5; have HL5 : Hid (OwnT w5 w2.heap.size ga ca la) := OwnT.go hla4.out hb5; clear hb5 ho5))
          go_roundw
          case rel => exact ⟨k + 1, g5, c5, by omega, by go_num, rfl, HO5.out, HL5.out, HB5.out⟩
          case measure => simp [intOf]; omega
      · obtain rfl : k = la.length := by omega
        go_wp2_with fail
        go_ret2
        exact KidsPost.mk (bys (nmTo la la.length)) HX.out (bys_len _) hbel.out (Nat.le_refl _) (by rw [strv_bys]; exact hout.out) rfl

end Go.Proofs.YtomaknmemhpghaaGreatDoor
