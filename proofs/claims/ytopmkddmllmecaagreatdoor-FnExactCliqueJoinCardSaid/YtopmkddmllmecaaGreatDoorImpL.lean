/- The sorted bag. The sorted bag: the library's sort by its contract. The walk of sortedBag. -/
import Derived.Test.YtopmkddmllmecaaGreatDoorImpH
/-! The sorted bag. -/
namespace Go.Proofs.YtopmkddmllmecaaGreatDoor
open Go.RowKit Rt Go.Sort Go.Lib

theorem cmp_lt : ∀ a b : B, decide (Lib.compareBytes a b < 0) = ltB a b
  | [], [] => rfl
  | [], _ :: _ => rfl
  | _ :: _, [] => rfl
  | a :: ar, b :: bs => by
    rw [Lib.compareBytes, ltB]
    by_cases h1 : a < b
    · rw [if_pos h1, if_pos h1]; rfl
    · rw [if_neg h1, if_neg h1]
      by_cases h2 : b < a
      · rw [if_pos h2, if_pos h2]; rfl
      · rw [if_neg h2, if_neg h2]; exact cmp_lt ar bs

/-- A term of the bag with the value that it lies at. -/
def Held (F : Nat → Prop) (w : World) : Type := { a : Value × Term // RepPF F w a.2 a.1 }

def Held.enc {F : Nat → Prop} {w : World} (a : Held F w) : Value := a.1.1
def Held.term {F : Nat → Prop} {w : World} (a : Held F w) : Term := a.1.2
def heldCmp {F : Nat → Prop} {w : World} (a b : Held F w) : Int := Lib.compareBytes (text a.term) (text b.term)

theorem held_lt {F : Nat → Prop} {w : World} (a b : Held F w) : ltOf heldCmp a b = ltB (text a.term) (text b.term) := cmp_lt _ _

theorem held_swo (F : Nat → Prop) (w : World) : SWO (ltOf (heldCmp (F := F) (w := w))) where
  irrefl x := by rw [held_lt]; exact ltB_irrefl _
  trans x y z h1 h2 := by rw [held_lt] at *; exact ltB_trans _ _ _ h1 h2
  ntrans x y z h1 h2 := by
    rw [held_lt] at *
    have := leB_trans (text z.term) (text y.term) (text x.term) (by unfold leB; rw [h2]; rfl) (by unfold leB; rw [h1]; rfl)
    unfold leB at this
    simpa using this

theorem held_list {F : Nat → Prop} {w : World} : ∀ (l : List Term) (xs : List Value), RepPsF F w l xs → ∃ d : List (Held F w), d.map Held.enc = xs ∧ d.map Held.term = l
  | [], xs, h => by rw [RepPsF] at h; subst h; exact ⟨[], rfl, rfl⟩
  | t :: l, xs, h => by
    rw [RepPsF] at h
    obtain ⟨x, r, rfl, h1, h2⟩ := h
    obtain ⟨d, e1, e2⟩ := held_list l r h2
    exact ⟨List.cons (⟨(x, t), h1⟩ : Held F w) d, congrArg (x :: ·) e1, congrArg (t :: ·) e2⟩

theorem held_reps {F : Nat → Prop} {w : World} : ∀ d : List (Held F w), RepPsF F w (d.map Held.term) (d.map Held.enc)
  | [] => by rw [List.map_nil, List.map_nil, RepPsF]
  | a :: d => by
    rw [List.map_cons, List.map_cons, RepPsF]
    exact ⟨_, _, rfl, a.2, held_reps d⟩

theorem repP_one {F : Nat → Prop} {w : World} {t : Term} {v : Value} (h : RepPF F w t v) : v.oneCell' = true := by
  obtain ⟨b, i, p, l, rfl, _⟩ := RepPF.head t v h
  rfl

/-- In a world that the sort passes through all old terms lie as they lay. -/
theorem sortWorld_alike {F G : Nat → Prop} {w w3 : World} [Inhabited (Held F w)] (blk off m : Nat) (dk : Array (Held F w)) (os : Array Obj) (h : AlikeAt G w w3) (hb : ¬ G blk) (hs : w.heap.size ≤ w3.heap.size) : AlikeAt G w (sortWorld Held.enc w3 blk off m dk os) := by
  intro k hk hkw
  have e : (sortWorld Held.enc w3 blk off m dk os).heap[k]? = w3.heap[k]? := by
    have hne : blk ≠ k := fun e => hb (e ▸ hk)
    unfold sortWorld grow putRow mapBlock
    simp only []
    rw [Array.getElem?_append_left (by simp; show k < w3.heap.size; omega)]
    rw [Array.getElem?_modify, if_neg hne]
    rfl
  rw [e]
  exact h k hk hkw

end Go.Proofs.YtopmkddmllmecaaGreatDoor

/-! The sorted bag: the library's sort by its contract. -/
namespace Go.Proofs.YtopmkddmllmecaaGreatDoor
open Go.RowKit Rt Go.Sort Go.Lib

theorem arr_bang {α : Type} [Inhabited α] (d : List α) (j : Nat) (h : j < d.length) : d.toArray[j]! = d[j] := by
  rw [getElem!_pos d.toArray j (by simpa using h)]
  simp

theorem sorted_asc {F : Nat → Prop} {w : World} [Inhabited (Held F w)] (d : Array (Held F w)) (h : SortedIn (ltOf (heldCmp (F := F) (w := w))) 0 d.size d) : Asc (d.toList.map Held.term) := by
  unfold Asc
  rw [List.pairwise_map, List.pairwise_iff_getElem]
  intro i j hi hj hij
  have := h i j (Nat.zero_le _) hij (by simpa using hj)
  rw [held_lt, getElem!_pos d j (by simpa using hj), getElem!_pos d i (by simpa using hi)] at this
  unfold leB
  simp only [Array.getElem_toList]
  rw [this]
  rfl

/-- What the sort leaves. -/
def SortPost (F : Nat → Prop) (w w3 : World) (g : Nat) (d : List (Held F w)) (e : Ending) (w' : World) : Prop :=
  e = .returned (.tuple #[]) ∧ w3.grownBy w' (some g) ∧ ∃ d' : List (Held F w), d'.Perm d ∧ Asc (d'.map Held.term) ∧ Cells w' g (d'.map Held.enc)

theorem sort_any (F : Nat → Prop) (w w3 : World) (g c : Nat) (d : List (Held F w)) (hne : d ≠ []) (hl : d.length ≤ 100000) (hw : AlikeAt F w w3) (hs : w.heap.size ≤ w3.heap.size) (hg : ¬ F g) (hlt : g < w3.heap.size)
    (hc : Cells w3 g (d.map Held.enc)) (hf : ∀ j, w3.frozen? ⟨g, j, none⟩ = false) :
    Calls Tryz.prog 135 #[.slice (some ⟨g, 0, none⟩) d.length c, .func (.func 136) #[] #[]] w3 (SortPost F w w3 g d) := by
  obtain ⟨a0, r0, hd0⟩ : ∃ a r, d = a :: r := List.exists_cons_of_ne_nil hne
  letI : Inhabited (Held F w) := ⟨a0⟩
  have eg : ∀ args w, (callFunc 136 args).run Tryz.prog w = .ok (.enter 136 args) w := enters_of Tryz.func136 (by kernel_rfl) rfl
  have hH : Holds Held.enc w3 g 0 d.toArray := by
    intro j hj
    have hj' : j < d.length := by simpa using hj
    rw [arr_bang d j hj', Nat.zero_add]
    exact ⟨hc j _ (by rw [List.getElem?_map, List.getElem?_eq_getElem hj']; rfl), hf j⟩
  have hcmp : CmpReads Tryz.prog 136 #[] Held.enc (heldCmp (F := F) (w := w)) g 0 d.toArray.size w3 := by
    intro m os dk hdk x y
    have hal := sortWorld_alike g 0 m dk os hw hg hs
    exact cmp_any F x.term y.term x.enc y.enc _ (RepPF.move hal (fun _ h _ => h) _ _ x.2) (RepPF.move hal (fun _ h _ => h) _ _ y.2)
  have hcon := Any.slices_SortFunc Tryz.sortTerm Held.enc (fun x => repP_one x.2) heldCmp (held_swo F w) 136 #[] g 0 c d.toArray w3 eg hcmp.lays hH hlt (by simp; omega)
  change Calls Tryz.prog 135 _ _ _ at hcon
  simp only [List.size_toArray] at hcon
  refine hcon.mono ?_
  rintro e w' ⟨he, d', n, os, ⟨hp1, _, hp3⟩, hsd, rfl⟩
  have hsz : d'.size = d.length := by simpa using hp1
  refine ⟨he, ?_, d'.toList, ?_, sorted_asc d' (by rw [hsz]; exact hsd), ?_⟩
  · refine ⟨rfl, rfl, rfl, ?_, ?_⟩
    · unfold sortWorld grow putRow mapBlock
      simp
    · intro k hk hne
      unfold sortWorld grow putRow mapBlock
      simp only []
      rw [Array.getElem?_append_left (by simp; exact hk), Array.getElem?_modify, if_neg (fun e => hne (by rw [e]))]
      rfl
  · have e1 : d'.extract 0 d.length = d' := by rw [← hsz]; simp
    have e2 : d.toArray.extract 0 d.length = d.toArray := by simp
    rw [e1, e2] at hp3
    exact hp3
  · have hh := holds_sortWorld Held.enc w3 g 0 n d.toArray d' os hlt hH (by simpa using hsz)
    intro j u hu
    rw [List.getElem?_map] at hu
    obtain ⟨a, ha, rfl⟩ := Option.map_eq_some_iff.1 hu
    have hj : j < d'.size := by
      have := (List.getElem?_eq_some_iff.1 ha).1
      simpa using this
    have := (hh j hj).1
    rw [Nat.zero_add, getElem!_pos d' j hj] at this
    rw [this]
    have := (List.getElem?_eq_some_iff.1 ha).2
    simp at this
    rw [this]

end Go.Proofs.YtopmkddmllmecaaGreatDoor

/-! The walk of sortedBag. -/
namespace Go.Proofs.YtopmkddmllmecaaGreatDoor
open Go.RowKit Rt Go.Sort Go.Lib

theorem term_info : (Tryz.prog.info? 74).map (fun i => (i.zero, i.size, i.bytes)) = some (some (.pointer none), 1, 8) := by kernel_rfl

/-- The slice of the sorted bag. -/
def BagPost (F : Nat → Prop) (w : World) (l : List Term) (e : Ending) (w' : World) : Prop :=
  Below w.heap.size w w' ∧ ∃ g c xs, e = .returned (.slice (some ⟨g, 0, none⟩) l.length c) ∧ w.heap.size ≤ g ∧ g < w'.heap.size ∧ l.length ≤ c ∧ c ≤ maxLen ∧ Cells w' g xs ∧ RepPsF F w' (sortBag l) xs

theorem repPs_one {F : Nat → Prop} {w : World} : ∀ (l : List Term) (xs : List Value), RepPsF F w l xs → ∀ u ∈ xs, u.oneCell' = true
  | [], xs, h, u, hu => by rw [RepPsF] at h; subst h; simp at hu
  | t :: l, xs, h, u, hu => by
    rw [RepPsF] at h
    obtain ⟨x, r, rfl, h3, h4⟩ := h
    rcases List.mem_cons.1 hu with rfl | hu
    · exact repP_one h3
    · exact repPs_one l r h4 u hu

theorem RepPsF.length {F : Nat → Prop} {w : World} : ∀ (l : List Term) (xs : List Value), RepPsF F w l xs → xs.length = l.length
  | [], xs, h => by rw [RepPsF] at h; subst h; rfl
  | t :: l, xs, h => by
    rw [RepPsF] at h
    obtain ⟨x, r, rfl, h3, h4⟩ := h
    simp [RepPsF.length l r h4]

theorem clone_any (F : Nat → Prop) (l : List Term) (b c : Nat) (xs : List Value) (w : World) (hl : l.length ≤ 100000) (hc : Cells w b xs) (hx : RepPsF F w l xs) :
    Calls Tryz.prog 134 #[.slice (some ⟨b, 0, none⟩) l.length c] w fun e w' =>
      ∃ g c', e = .returned (.slice (some ⟨g, 0, none⟩) l.length c') ∧ w.heap.size ≤ g ∧ g < w'.heap.size ∧ l.length ≤ c' ∧ c' ≤ maxLen ∧ Cells w' g xs ∧ (∀ j, w'.frozen? ⟨g, j, none⟩ = false) ∧ Below w.heap.size w w' := by
  obtain ⟨i0, hi0, hz0, hz1, hz2⟩ := info_parts term_info
  have hlen := RepPsF.length l xs hx
  have h := AnyE.slices_Clone Tryz.cloneTerm i0 (.pointer none) 1 8 hi0 hz0 hz1 hz2 rfl (Nat.succ_pos 0) Tryz.sizeOf74 b 0 l.length c xs w (by omega) (by unfold maxLen; omega) (by omega) (fun j u hj => by rw [Nat.zero_add]; exact hc j u hj) (repPs_one l xs hx)
  change Calls Tryz.prog 134 _ _ _ at h
  refine h.mono ?_
  rintro e w' ⟨v', rfl, ⟨h1, h2⟩, hnil, hb⟩
  rcases h2 with ⟨rfl, _⟩ | ⟨g, cap, cur, rfl, hg, hh, h3, h4, h5, h6⟩
  · exact absurd rfl hnil
  · have hlt : g < w'.heap.size := by
      rcases Nat.lt_or_ge g w'.heap.size with h | h
      · exact h
      · rw [Array.getElem?_eq_none h] at hh; cases hh
    refine ⟨g, cap, rfl, hg, hlt, h3, h4, ?_, ?_, hb⟩
    · intro j u hj
      have : (cur.toList.take (l.length * 1))[j]? = some u := by
        have e : cur.toList.take (l.length * 1) = xs := h6
        rw [e]; exact hj
      rw [List.getElem?_take] at this
      split at this
      · rw [Array.getElem?_toList] at this
        rw [cell_of_row w' g j cur _ (0, 0) hh]
        exact this
      · cases this
    · intro j
      exact Blk.frozen (cs := cur) hh j

set_option maxHeartbeats 800000 in
set_option maxRecDepth 100000 in
theorem sortedBag_cons (F : Nat → Prop) (l : List Term) (k b c : Nat) (xs : List Value) (w : World) (hne : l ≠ []) (hok : oks k l = true) (hl : l.length ≤ 100000) (hF : ∀ k, F k → k < w.heap.size) (hc : Cells w b xs) (hx : RepPsF F w l xs) :
    Calls Tryz.prog 121 #[.slice (some ⟨b, 0, none⟩) l.length c] w (BagPost F w l) := by
  have HC := Lib.hid (clone_any F l b c xs w hl hc hx)
  obtain ⟨d, hd1, hd2⟩ := held_list l xs hx
  have hdl : d.length = l.length := by rw [← hd2]; simp
  have HS : Hid (∀ (w3 : World) (g c' : Nat), Below w.heap.size w w3 → w.heap.size ≤ g → g < w3.heap.size → Cells w3 g xs → (∀ j, w3.frozen? ⟨g, j, none⟩ = false) → Calls Tryz.prog 135 #[.slice (some ⟨g, 0, none⟩) l.length c', .func (.func 136) #[] #[]] w3 (SortPost F w w3 g d)) := by
    intro w3 g c' hb hg hlt hcl hfz
    have := sort_any F w w3 g c' d (by intro e; subst e; exact hne hd2.symm) (by omega) (below_alike hb) hb.size (fun h => by have := hF g h; omega) hlt (by rw [hd1]; exact hcl) hfz
    rw [hdl] at this
    exact this
  have HF : Hid (∀ (w' : World), AlikeAt F w w' → ∀ d' : List (Held F w), d'.Perm d → Asc (d'.map Held.term) → RepPsF F w' (sortBag l) (d'.map Held.enc)) := by
    intro w' hal d' hp ha
    have := sortBag_unique k l (d'.map Held.term) hok (by rw [← hd2]; exact hp.map _) ha
    rw [← this]
    exact RepPsF.move hal (fun _ h _ => h) _ _ (held_reps d')
  clear hc hx hd1 hd2 hdl hok hF
  go_enter Tryz.func121, Tryz.ntmps121
  go_wp2_with (first
    | (go_at_call 134; refine HC.out.mono ?_; rintro e w3 ⟨g, c', rfl, q1, q2, q3, q4, q5, q6, q7⟩; have H5 := Lib.hid q5; have H6 := Lib.hid q6; have H7 := Lib.hid q7; clear q5 q6 q7)
    | (go_at_call 135; refine (HS.out w3 g c' H7.out q1 q2 H5.out H6.out).mono ?_; rintro e w4 ⟨rfl, r1, r2⟩; have R1 := Lib.hid r1; have R2 := Lib.hid r2; clear r1 r2))
  go_ret
  obtain ⟨d', hp, ha, hcl⟩ := R2.out
  have hb4 : Below w.heap.size w w4 := H7.out.grown R1.out H7.out.size (fun k hk => by simp at hk; omega)
  exact ⟨hb4, g, c', _, rfl, q1, Nat.lt_of_lt_of_le q2 R1.out.size, q3, q4, hcl, HF.out w4 (below_alike hb4) d' hp ha⟩

end Go.Proofs.YtopmkddmllmecaaGreatDoor
