/- A region whose last operation waits for all others: the region without it, and then that operation. -/
import Derived.Deep.RegionHeld
namespace Go.Proofs.YtopmkddmllmecaaGreatDoor
open Go

def popOk (md : Region.Mode) (ops : Array Oper) (last : Oper) : Bool :=
  (List.range ops.size).all (fun i => match ops[i]? with
    | none => true
    | some o => o.after.all (fun e => decide (e.on < i)) && (match o.guard with
      | none => true
      | some (g, _) => decide (g < ops.size)))
  && (List.range ops.size).all (fun i => last.after.any (fun e => Region.binds md e && e.on == i) || ops.any (fun o => o.after.any (fun e => Region.binds md e && e.on == i)))
  && last.after.all (fun e => decide (e.on < ops.size))

section
variable {P : Program} {ops : Array Oper} {md : Region.Mode} {Q Q' : Exit → Act → World → Prop} {last : Oper}

structure Pops (md : Region.Mode) (ops : Array Oper) (last : Oper) : Prop where
  back : ∀ (i : Nat) (o : Oper), ops[i]? = some o → ∀ e ∈ o.after, e.on < i
  guard : ∀ (i : Nat) (o : Oper), ops[i]? = some o → ∀ g b, o.guard = some (g, b) → g < ops.size
  waits : ∀ i : Nat, i < ops.size → (∃ e ∈ last.after, Region.binds md e = true ∧ e.on = i) ∨ ∃ (j : Nat) (o : Oper), ops[j]? = some o ∧ ∃ e ∈ o.after, Region.binds md e = true ∧ e.on = i
  own : ∀ e ∈ last.after, e.on < ops.size

theorem popOk_spec (h : popOk md ops last = true) : Pops md ops last := by
  unfold popOk at h
  rw [Bool.and_eq_true, Bool.and_eq_true] at h
  obtain ⟨⟨h1, h2⟩, h3⟩ := h
  rw [List.all_eq_true] at h1 h2
  rw [Array.all_eq_true'] at h3
  refine ⟨fun i o ho e he => ?_, fun i o ho g b hg => ?_, fun i hi => ?_, fun e he => by simpa using h3 e he⟩
  · have hi : i < ops.size := (Array.getElem?_eq_some_iff.1 ho).1
    have := h1 i (List.mem_range.2 hi)
    rw [ho] at this
    simp only [Bool.and_eq_true] at this
    have h3 := this.1
    rw [Array.all_eq_true'] at h3
    simpa using h3 e he
  · have hi : i < ops.size := (Array.getElem?_eq_some_iff.1 ho).1
    have := h1 i (List.mem_range.2 hi)
    rw [ho] at this
    simp only [Bool.and_eq_true, hg] at this
    simpa using this.2
  · have := h2 i (List.mem_range.2 hi)
    rw [Bool.or_eq_true] at this
    rcases this with this | this
    · rw [Array.any_eq_true'] at this
      obtain ⟨e, he, hh⟩ := this
      simp only [Bool.and_eq_true, beq_iff_eq] at hh
      exact .inl ⟨e, he, hh.1, hh.2⟩
    · rw [Array.any_eq_true'] at this
      obtain ⟨o, ho, this⟩ := this
      rw [Array.any_eq_true'] at this
      obtain ⟨e, he, hh⟩ := this
      simp only [Bool.and_eq_true, beq_iff_eq] at hh
      obtain ⟨j, hj, e2⟩ := Array.mem_iff_getElem.1 ho
      exact .inr ⟨j, o, by rw [Array.getElem?_eq_getElem hj, e2], e, he, hh.1, hh.2⟩

/-- What is listed has behind it what it waits for. -/
def Closed (md : Region.Mode) (ops : Array Oper) (listed : Array Bool) : Prop :=
  ∀ (j : Nat) (o : Oper), ops[j]? = some o → listed.getD j false = true → ∀ e ∈ o.after, Region.binds md e = true → listed.getD e.on false = true

theorem Closed.set {listed : Array Bool} (hc : Closed md ops listed) {i : Nat} (hi : i ∈ Region.ready md ops listed) : Closed md ops (listed.setIfInBounds i true) := by
  intro j o ho hj e he hb
  have up : listed.getD e.on false = true → (listed.setIfInBounds i true).getD e.on false = true := fun h => by
    by_cases hie : i = e.on
    · simp only [Array.getD_eq_getD_getElem?] at h ⊢
      rw [Array.getElem?_setIfInBounds, if_pos hie]
      split
      · rfl
      · rw [Array.getElem?_eq_none (by omega)] at h
        cases h
    · simp only [Array.getD_eq_getD_getElem?] at h ⊢
      rw [Array.getElem?_setIfInBounds, if_neg hie]
      exact h
  by_cases hij : i = j
  · subst hij
    obtain ⟨_, o', ho', hh⟩ := mem_ready.1 hi
    rw [ho] at ho'
    injection ho' with ho'
    subst ho'
    exact up (hh e he hb)
  · refine up (hc j o ho ?_ e he hb)
    simp only [Array.getD_eq_getD_getElem?] at hj ⊢
    rw [Array.getElem?_setIfInBounds, if_neg hij] at hj
    exact hj

theorem upon_exit {o : Oper} {a : Act} {K : Act → World → Prop} (hO : ∀ e a w, e ≠ .normal → Q' e a w → Q e a w) {r : Result Next} (h : o.upon P a K Q' r) : o.upon P a K Q r := by
  have hL : LetsOut Q' → LetsOut Q := fun ⟨a, w, h⟩ => ⟨a, w, hO _ _ _ (by simp) h⟩
  cases r with
  | ok n w' =>
    cases n <;> simp only [Oper.upon] at h ⊢ <;>
      first
        | exact h
        | exact Calls.mono h (fun e w'' he => by cases e <;> first | exact he | exact hO _ _ _ (by simp) he | exact hL he)
        | exact Rows.mono h (fun _ _ he => he)
  | halt x w' => cases x <;> simp only [Oper.upon] at h ⊢ <;> first | exact h | exact hO _ _ _ (by simp) h | exact hL h

theorem wpOp_push {i : Nat} {a : Act} {w : World} {K : Act → World → Prop} (hp : Pops md ops last) (hO : ∀ e a w, e ≠ .normal → Q' e a w → Q e a w) (hi : i < ops.size)
    (h : wpOp P ops Q' i K a w) : wpOp P (ops.push last) Q i K a w := by
  have hL : LetsOut Q' → LetsOut Q := fun ⟨a, w, h⟩ => ⟨a, w, hO _ _ _ (by simp) h⟩
  unfold wpOp at *
  have he : ∀ j, j < ops.size → (ops.push last)[j]? = ops[j]? := fun j hj => by
    rw [Array.getElem?_push]
    rw [if_neg (by omega)]
  rw [he i hi]
  cases ho : ops[i]? with
  | none => rw [ho] at h; exact h
  | some o =>
    rw [ho] at h
    have hw : Region.wanted o (yielded (ops.push last) a.tmps) = Region.wanted o (yielded ops a.tmps) := by
      unfold Region.wanted
      cases hg : o.guard with
      | none => rfl
      | some g =>
        obtain ⟨g, b⟩ := g
        simp only []
        unfold yielded
        rw [he g (hp.guard i o ho g b hg)]
    simp only [] at h ⊢
    rw [hw]
    split
    · rename_i hh
      rw [if_pos hh] at h
      rcases h with h | ⟨h, h'⟩
      · exact .inl (upon_exit hO h)
      · exact .inr ⟨h, hL h'⟩
    · rename_i hh
      rw [if_neg hh] at h
      exact h

theorem all_listed (hp : Pops md ops last) {listed : Array Bool} (hr : Region.ready md ops listed = []) : ∀ i, i < ops.size → listed.getD i true = true := by
  intro i
  induction i using Nat.strongRecOn with
  | _ i ih =>
    intro hi
    cases hl : listed.getD i true with
    | true => rfl
    | false =>
      have : i ∈ Region.ready md ops listed := mem_ready.2 ⟨hl, ops[i], by simp [hi], fun e he hb => by
        have hlt := hp.back i ops[i] (by simp [hi]) e he
        have := ih e.on hlt (by omega)
        have hs : i < listed.size := by
          rcases Nat.lt_or_ge i listed.size with h | h
          · exact h
          · simp [Array.getElem?_eq_none h] at hl
        simp only [Array.getD_eq_getD_getElem?] at this ⊢
        rw [Array.getElem?_eq_getElem (by omega)] at this ⊢
        simpa using this⟩
      rw [hr] at this
      cases this

theorem getD_push {listed : Array Bool} {b d : Bool} {j : Nat} (hj : j < listed.size) : (listed.push b).getD j d = listed.getD j d := by
  simp only [Array.getD_eq_getD_getElem?]
  rw [Array.getElem?_push, if_neg (by omega)]

theorem get_push {j : Nat} (hj : j < ops.size) : (ops.push last)[j]? = ops[j]? := by
  rw [Array.getElem?_push, if_neg (by omega)]

theorem ready_push (hp : Pops md ops last) {listed : Array Bool} (hs : listed.size = ops.size) {j : Nat} (hj : j < ops.size) :
    j ∈ Region.ready md (ops.push last) (listed.push false) ↔ j ∈ Region.ready md ops listed := by
  rw [mem_ready, mem_ready, getD_push (by omega), get_push hj]
  constructor
  · rintro ⟨h0, o, ho, h⟩
    refine ⟨h0, o, ho, fun e he hb => ?_⟩
    have := hp.back j o ho e he
    rw [← getD_push (b := false) (by omega)]
    exact h e he hb
  · rintro ⟨h0, o, ho, h⟩
    refine ⟨h0, o, ho, fun e he hb => ?_⟩
    have := hp.back j o ho e he
    rw [getD_push (by omega)]
    exact h e he hb

theorem ready_le {listed : Array Bool} {j : Nat} (h : j ∈ Region.ready md (ops.push last) listed) : j ≤ ops.size := by
  obtain ⟨_, o, ho, _⟩ := mem_ready.1 h
  have := (Array.getElem?_eq_some_iff.1 ho).1
  simp at this
  omega

theorem last_ready (hp : Pops md ops last) {listed : Array Bool} (hs : listed.size = ops.size) (ha : ∀ i, i < ops.size → listed.getD i true = true) : ops.size ∈ Region.ready md (ops.push last) (listed.push false) := by
  refine mem_ready.2 ⟨?_, last, by simp, fun e he hb => ?_⟩
  · simp [Array.getD_eq_getD_getElem?, ← hs]
  · have := hp.own e he
    rw [getD_push (by omega)]
    have h := ha e.on this
    simp only [Array.getD_eq_getD_getElem?] at h ⊢
    rw [Array.getElem?_eq_getElem (by omega)] at h ⊢
    simpa using h

theorem getD_any {listed : Array Bool} {i : Nat} (hi : i < listed.size) : listed.getD i true = listed.getD i false := by
  simp only [Array.getD_eq_getD_getElem?]
  rw [Array.getElem?_eq_getElem hi]
  rfl

theorem last_waits (hp : Pops md ops last) {listed : Array Bool} (hc : Closed md ops listed) (hs : listed.size = ops.size) (h : ops.size ∈ Region.ready md (ops.push last) (listed.push false)) : ∀ (k i : Nat), i < ops.size → ops.size - i = k → listed.getD i true = true := by
  obtain ⟨_, o, ho, hh⟩ := mem_ready.1 h
  have : o = last := by simpa using ho.symm
  subst this
  intro k
  induction k using Nat.strongRecOn with
  | _ k ih =>
    intro i hi hk
    rw [getD_any (by omega)]
    rcases hp.waits i hi with ⟨e, he, hb, rfl⟩ | ⟨j, o, ho, e, he, hb, rfl⟩
    · have := hh e he hb
      rw [getD_push (by omega)] at this
      exact this
    · have hj : j < ops.size := (Array.getElem?_eq_some_iff.1 ho).1
      have hlt := hp.back j o ho e he
      have := ih (ops.size - j) (by omega) j hj rfl
      rw [getD_any (by omega)] at this
      exact hc j o ho this e he hb

theorem none_ready {listed : Array Bool} (hs : listed.size = ops.size) (ha : ∀ i, i < ops.size → listed.getD i true = true) : Region.ready md (ops.push last) ((listed.push false).setIfInBounds ops.size true) = [] := by
  rw [List.eq_nil_iff_forall_not_mem]
  intro j hj
  have hle := ready_le hj
  have h0 := (mem_ready.1 hj).1
  rcases Nat.lt_or_ge j ops.size with h | h
  · have h1 := ha j h
    rw [getD_set_ne true (by omega), getD_push (by omega), h1] at h0
    cases h0
  · have : j = ops.size := by omega
    subst this
    simp [Array.getD_eq_getD_getElem?, ← hs] at h0

theorem wpAny_push (hp : Pops md ops last) (hO : ∀ e a w, e ≠ .normal → Q' e a w → Q e a w) (hN : ∀ a w, Q' .normal a w → wpOp P (ops.push last) Q ops.size (fun a w => Q .normal a w) a w) :
    ∀ (fuel : Nat) (listed : Array Bool) (a : Act) (w : World), listed.size = ops.size → Closed md ops listed → wpAny P md ops Q' fuel listed a w → wpAny P md (ops.push last) Q (fuel + 1) (listed.push false) a w := by
  have key : ∀ (fuel : Nat) (listed : Array Bool) (a : Act) (w : World), listed.size = ops.size → Region.ready md ops listed = [] → Q' .normal a w → wpAny P md (ops.push last) Q (fuel + 1) (listed.push false) a w := by
    intro fuel listed a w hs hr hq
    have ha := all_listed hp hr
    have hl := last_ready hp hs ha
    refine ⟨fun h => by (rw [h] at hl; cases hl), fun j hj => ?_⟩
    have hle := ready_le hj
    rcases Nat.lt_or_ge j ops.size with h | h
    · rw [ready_push hp hs h, hr] at hj
      cases hj
    · have : j = ops.size := by omega
      subst this
      refine wpOp_mono (fun a w hq => ?_) (hN a w hq)
      have hn := none_ready (md := md) (last := last) hs ha
      cases fuel with
      | zero => exact ⟨hn, hq⟩
      | succ f => exact ⟨fun _ => hq, by rw [hn]; simp⟩
  intro fuel
  induction fuel with
  | zero => intro listed a w hs hc h; exact key 0 listed a w hs h.1 h.2
  | succ fuel ih =>
    intro listed a w hs hc h
    by_cases hr : Region.ready md ops listed = []
    · exact key (fuel + 1) listed a w hs hr (h.1 hr)
    · obtain ⟨i, hi⟩ := List.exists_mem_of_ne_nil _ hr
      obtain ⟨hi0, o, ho, _⟩ := mem_ready.1 hi
      have hin : i < ops.size := (Array.getElem?_eq_some_iff.1 ho).1
      have hi' := (ready_push hp hs hin).2 hi
      refine ⟨fun h0 => by (rw [h0] at hi'; cases hi'), fun j hj => ?_⟩
      have hle := ready_le hj
      rcases Nat.lt_or_ge j ops.size with hjn | hjn
      · have hj2 := (ready_push hp hs hjn).1 hj
        refine wpOp_mono (fun a w hw => ?_) (wpOp_push hp hO hjn (h.2 j hj2))
        have := ih (listed.setIfInBounds j true) a w (by simpa using hs) (hc.set hj2) hw
        have e : (listed.push false).setIfInBounds j true = (listed.setIfInBounds j true).push false := by
          apply Array.ext_getElem?
          intro k
          rw [Array.getElem?_setIfInBounds, Array.getElem?_push, Array.getElem?_push, Array.getElem?_setIfInBounds, Array.size_setIfInBounds, Array.size_push]
          by_cases hk : k = listed.size
          · rw [if_neg (by omega), if_pos hk, if_pos hk]
          · rw [if_neg hk, if_neg hk]
            by_cases hjk : j = k
            · rw [if_pos hjk, if_pos hjk, if_pos (by omega), if_pos (by omega)]
            · rw [if_neg hjk, if_neg hjk]
        rw [e]
        exact this
      · have : j = ops.size := by omega
        subst this
        have := last_waits hp hc hs hj _ i hin rfl
        rw [this] at hi0
        cases hi0

/-- A drawn region whose last operation waits for all others: the others under a condition on the world, then the last. -/
theorem wp_region_pop {S : World → Prop} {id : Nat} {a : Act} {w : World} (hm : P.follows .mixedOrders = true) (hok : popOk .any ops last = true) (hO : ∀ e a w, e ≠ .normal → Q' e a w → Q e a w)
    (hN : ∀ a w, Q' .normal a w → wpOp P (ops.push last) Q ops.size (fun a w => Q .normal a w) a w)
    (h : wpAnyH P .any ops Q' S ops.size (Array.replicate ops.size false) a { w with drawn := w.drawn + 1 }) : (Code.region id (ops.push last) true).wp P Q a w := by
  refine wp_region_any hm ?_
  have := wpAny_push (popOk_spec hok) hO hN ops.size (Array.replicate ops.size false) a _ (by simp) (fun j o _ h => by simp [Array.getD_eq_getD_getElem?, Array.getElem?_replicate] at h; split at h <;> simp at h) (wpAny_of_held _ _ _ _ h)
  rw [Array.size_push, Array.replicate_succ]
  exact this

/-- What is to hold behind the others: the last operation's own. -/
def PopQ (P : Program) (full : Array Oper) (Q : Exit → Act → World → Prop) : Exit → Act → World → Prop
  | .normal, a, w => wpOp P full Q (full.size - 1) (fun a w => Q .normal a w) a w
  | e, a, w => Q e a w

theorem wp_region_last {full : Array Oper} {S : World → Prop} {id : Nat} {a : Act} {w : World} (hm : P.follows .mixedOrders = true) (hfull : full = ops.push last) (hok : popOk .any ops last = true)
    (hS : S w.drew) (h : S w.drew → wpAnyH P .any ops (PopQ P full Q) S ops.size (Array.replicate ops.size false) a w.drew) : (Code.region id full true).wp P Q a w := by
  subst hfull
  refine wp_region_pop (Q' := PopQ P (ops.push last) Q) hm hok (fun e a w he h => ?_) (fun a w h => ?_) (h hS)
  · cases e <;> first | exact absurd rfl he | exact h
  · have h2 : wpOp P (ops.push last) Q ((ops.push last).size - 1) (fun a w => Q .normal a w) a w := h
    simpa using h2

/-- The same of a region whose row is written out. -/
theorem wp_region_lit {l : List Oper} {o : Oper} {S : World → Prop} {id : Nat} {a : Act} {w : World} (hm : P.follows .mixedOrders = true) (hl : (o :: l).dropLast.toArray = ops) (hok : popOk .any ops ((o :: l).getLast (by simp)) = true)
    (hS : S w.drew) (h : S w.drew → wpAnyH P .any ops (PopQ P (o :: l).toArray Q) S ops.size (Array.replicate ops.size false) a w.drew) : (Code.region id (o :: l).toArray true).wp P Q a w := by
  refine wp_region_last (last := (o :: l).getLast (by simp)) hm ?_ hok hS h
  rw [← hl, List.push_toArray, List.dropLast_concat_getLast]

end
end Go.Proofs.YtopmkddmllmecaaGreatDoor
