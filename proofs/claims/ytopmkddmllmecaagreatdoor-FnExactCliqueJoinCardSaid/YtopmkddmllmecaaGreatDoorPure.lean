/- Plain functions on texts, trees and terms, and their laws: no program is named here. More laws of texts and terms. What is read is written again: a text of the tree that was read out of it. -/
/-! Plain functions on texts, trees and terms, and their laws: no program is named here. -/
namespace Rt

abbrev B := List UInt8

def isDig (c : UInt8) : Bool := 48 ≤ c && c ≤ 57
def isLow (c : UInt8) : Bool := 97 ≤ c && c ≤ 122
def isAtomB (c : UInt8) : Bool := (97 ≤ c && c ≤ 122) || (48 ≤ c && c ≤ 57)

/-- What is read: an atom, or parts. -/
inductive Tree where
  | atom (s : B)
  | list (l : List Tree)

/-- Where the atom that begins at i ends. -/
def endA (s : B) (i : Nat) : Nat := i + ((s.drop i).takeWhile isAtomB).length

theorem endA_step (s : B) (i : Nat) (h : i < s.length) (hc : isAtomB s[i] = true) : endA s i = endA s (i + 1) := by
  unfold endA
  rw [List.drop_eq_getElem_cons h, List.takeWhile_cons, if_pos hc, List.length_cons]; omega

theorem endA_stop (s : B) (i : Nat) (h : i < s.length) (hc : isAtomB s[i] = false) : endA s i = i := by
  unfold endA
  rw [List.drop_eq_getElem_cons h, List.takeWhile_cons, if_neg (by simp [hc])]; rfl

theorem endA_out (s : B) (i : Nat) (h : s.length ≤ i) : endA s i = i := by
  unfold endA
  rw [List.drop_eq_nil_of_le h]; rfl

theorem endA_ge (s : B) (i : Nat) : i ≤ endA s i := by unfold endA; omega

theorem endA_le (s : B) (i : Nat) (h : i ≤ s.length) : endA s i ≤ s.length := by
  unfold endA
  have := (List.takeWhile_prefix (p := isAtomB) (l := s.drop i)).length_le
  simp at this; omega

/-- A piece of a text. -/
def cut (s : B) (i j : Nat) : B := (s.drop i).take (j - i)

mutual
/-- Reads a part from i on, d parentheses around; with fuel. -/
def rd (s : B) : Nat → Nat → Nat → Option (Tree × Nat)
  | 0, _, _ => none
  | f + 1, i, d =>
    if s[i]? = some 40 then
      if d < 100 then (rdL s f (i + 1) (d + 1)).map (fun p => (Tree.list p.1, p.2)) else none
    else if i < endA s i then some (Tree.atom (cut s i (endA s i)), endA s i) else none
/-- Reads what is behind an opening parenthesis or a space. -/
def rdL (s : B) : Nat → Nat → Nat → Option (List Tree × Nat)
  | 0, _, _ => none
  | f + 1, i, d =>
    match rd s f i d with
    | none => none
    | some (t, e) =>
      if s[e]? = some 41 then some ([t], e + 1)
      else if s[e]? = some 32 then (rdL s f (e + 1) d).map (fun p => (t :: p.1, p.2))
      else none
end

/-- A whole text. -/
def parse (s : B) : Option Tree :=
  if s.length ≤ 4000 then
    match rd s (2 * s.length + 4) 0 0 with
    | some (t, e) => if e = s.length then some t else none
    | none => none
  else none

/-- Reading goes on. -/
theorem rd_bounds (s : B) (f : Nat) : (∀ i d t e, rd s f i d = some (t, e) → i < e ∧ e ≤ s.length) ∧ (∀ i d l e, rdL s f i d = some (l, e) → i < e ∧ e ≤ s.length ∧ l ≠ []) := by
  induction f with
  | zero => constructor <;> (intro i d t e h; simp [rd, rdL] at h)
  | succ f ih =>
    constructor
    · intro i d t e h
      rw [rd] at h
      split at h
      · split at h
        · rw [Option.map_eq_some_iff] at h
          obtain ⟨⟨l, e'⟩, hl, hp⟩ := h
          obtain ⟨h1, h2, _⟩ := ih.2 _ _ _ _ hl
          simp only [Prod.mk.injEq] at hp
          omega
        · simp at h
      · split at h
        · rename_i hlt
          simp only [Option.some.injEq, Prod.mk.injEq] at h
          refine ⟨by omega, ?_⟩
          by_cases hi : i ≤ s.length
          · have := endA_le s i hi; omega
          · have := endA_out s i (by omega); omega
        · simp at h
    · intro i d l e h
      rw [rdL] at h
      split at h
      · simp at h
      · rename_i t e' ht
        obtain ⟨h1, h2⟩ := ih.1 _ _ _ _ ht
        split at h
        · rename_i hc
          have : e' < s.length := by
            rcases Nat.lt_or_ge e' s.length with h3 | h3
            · exact h3
            · rw [List.getElem?_eq_none h3] at hc; simp at hc
          simp only [Option.some.injEq, Prod.mk.injEq] at h
          obtain ⟨rfl, rfl⟩ := h
          exact ⟨by omega, by omega, by simp⟩
        · split at h
          · rw [Option.map_eq_some_iff] at h
            obtain ⟨⟨l', e''⟩, hl, hp⟩ := h
            obtain ⟨h3, h4, _⟩ := ih.2 _ _ _ _ hl
            simp only [Prod.mk.injEq] at hp
            obtain ⟨rfl, rfl⟩ := hp
            exact ⟨by omega, by omega, by simp⟩
          · simp at h


def sLam : B := [108, 97, 109]
def sApp : B := [97, 112, 112]
def sM : B := [109]

def isName (s : B) : Bool := match s with
  | c :: r => isLow c && decide (r.length ≤ 2) && r.all isDig
  | [] => false

def index? (s : B) : Option Nat := match s with
  | [c] => if isDig c then some (c.toNat - 48) else none
  | [c, d] => if isDig c && isDig d && c != 48 then some (10 * (c.toNat - 48) + (d.toNat - 48)) else none
  | _ => none

/-- A decimal numeral of a number below 100. -/
def dec (n : Nat) : B := if n < 10 then [UInt8.ofNat (48 + n)] else [UInt8.ofNat (48 + n / 10), UInt8.ofNat (48 + n % 10)]

inductive Term where
  | nm (s : B)
  | ix (n : Nat)
  | lam (t : Term)
  | app (t : Term) (b : List Term)

mutual
def ofTerm : Term → Tree
  | .nm s => .atom s
  | .ix n => .atom (dec n)
  | .lam t => .list [.atom sLam, ofTerm t]
  | .app t b => .list [.atom sApp, ofTerm t, .list (.atom sM :: ofTerms b)]
def ofTerms : List Term → List Tree
  | [] => []
  | t :: l => ofTerm t :: ofTerms l
end

mutual
def toTerm : Nat → Tree → Option Term
  | k, .atom a => if isName a then some (.nm a) else match index? a with
    | some n => if n < k then some (.ix n) else none
    | none => none
  | k, .list (.atom h :: l) =>
    match l with
    | [x] => if h = sLam then (toTerm (k + 1) x).map .lam else none
    | [x, .list (.atom m :: b)] => if h = sApp then
        match toTerm k x with
        | none => none
        | some t => if m = sM then (toTerms k b).map (.app t) else none
      else none
    | _ => none
  | _, .list _ => none
def toTerms : Nat → List Tree → Option (List Term)
  | _, [] => some []
  | k, x :: l => match toTerm k x with
    | none => none
    | some t => (toTerms k l).map (t :: ·)
end

mutual
def size : Term → Nat
  | .nm _ => 1
  | .ix _ => 1
  | .lam t => 1 + size t
  | .app t b => 1 + size t + sizes b
def sizes : List Term → Nat
  | [] => 0
  | t :: l => size t + sizes l
end

mutual
def textT : Tree → B
  | .atom s => s
  | .list l => 40 :: (textL l ++ [41])
def textL : List Tree → B
  | [] => []
  | [t] => textT t
  | t :: u :: l => textT t ++ 32 :: textL (u :: l)
end

/-- The text of a term. -/
def text (t : Term) : B := textT (ofTerm t)


theorem index_dec (a : B) (n : Nat) (h : index? a = some n) : a = dec n ∧ n < 100 := by
  unfold index? at h
  split at h
  · rename_i c
    split at h
    · rename_i hd
      unfold isDig at hd
      simp only [Bool.and_eq_true, decide_eq_true_eq, UInt8.le_iff_toNat_le] at hd
      have h1 : (48 : UInt8).toNat = 48 := rfl
      have h2 : (57 : UInt8).toNat = 57 := rfl
      simp only [Option.some.injEq] at h
      subst h
      refine ⟨?_, by omega⟩
      unfold dec
      rw [if_pos (by omega), show 48 + (c.toNat - 48) = c.toNat by omega]
      simp
    · simp at h
  · rename_i c d
    split at h
    · rename_i hd
      unfold isDig at hd
      simp only [Bool.and_eq_true, decide_eq_true_eq, UInt8.le_iff_toNat_le, bne_iff_ne, ne_eq] at hd
      have h1 : (48 : UInt8).toNat = 48 := rfl
      have h2 : (57 : UInt8).toNat = 57 := rfl
      have h3 : c.toNat ≠ 48 := fun e => hd.2 (UInt8.toNat.inj (by rw [e]; rfl))
      simp only [Option.some.injEq] at h
      subst h
      refine ⟨?_, by omega⟩
      unfold dec
      rw [if_neg (by omega), show 48 + (10 * (c.toNat - 48) + (d.toNat - 48)) / 10 = c.toNat by omega, show 48 + (10 * (c.toNat - 48) + (d.toNat - 48)) % 10 = d.toNat by omega]
      simp
    · simp at h
  · simp at h

theorem dec_index : ∀ n, n < 100 → index? (dec n) = some n := by decide +kernel
theorem dec_noName : ∀ n, n < 100 → isName (dec n) = false := by decide +kernel
theorem dec_ne : ∀ n, n < 100 → dec n ≠ [] := by decide +kernel
theorem dec_atom : ∀ n, n < 100 → (dec n).all isAtomB = true := by decide +kernel

theorem dec_inj (n m : Nat) (hn : n < 100) (hm : m < 100) (h : dec n = dec m) : n = m := by
  have := dec_index n hn
  rw [h, dec_index m hm] at this
  injection this with h; exact h.symm

/- A term's names are names, and its indices are less than the number of lam around. -/
mutual
def ok : Nat → Term → Bool
  | _, .nm s => isName s
  | k, .ix n => decide (n < k ∧ n < 100)
  | k, .lam t => ok (k + 1) t
  | k, .app t b => ok k t && oks k b
def oks : Nat → List Term → Bool
  | _, [] => true
  | k, t :: l => ok k t && oks k l
end

mutual
theorem toTerm_some : ∀ (k : Nat) (x : Tree) (t : Term), toTerm k x = some t → x = ofTerm t ∧ ok k t = true
  | k, .atom a, t, h => by
    rw [toTerm] at h
    split at h
    · rename_i hn
      simp only [Option.some.injEq] at h; subst h
      exact ⟨rfl, hn⟩
    · split at h
      · rename_i n hi
        split at h
        · rename_i hk
          simp only [Option.some.injEq] at h; subst h
          obtain ⟨h1, h2⟩ := index_dec a n hi
          exact ⟨by rw [h1]; rfl, by simp [ok]; omega⟩
        · simp at h
      · simp at h
  | k, .list [.atom a, x], t, h => by
    rw [toTerm] at h
    split at h
    · rename_i ha
      rw [Option.map_eq_some_iff] at h
      obtain ⟨u, hu, rfl⟩ := h
      obtain ⟨h1, h2⟩ := toTerm_some (k + 1) x u hu
      exact ⟨by rw [ha, h1]; rfl, h2⟩
    · simp at h
  | k, .list [.atom a, x, .list (.atom m :: b)], t, h => by
    rw [toTerm] at h
    split at h
    · rename_i ha
      split at h
      · simp at h
      · rename_i u hu
        split at h
        · rename_i hm
          rw [Option.map_eq_some_iff] at h
          obtain ⟨v, hv, rfl⟩ := h
          obtain ⟨h1, h2⟩ := toTerm_some k x u hu
          obtain ⟨h3, h4⟩ := toTerms_some k b v hv
          exact ⟨by rw [ha, hm, h1, h3]; rfl, by simp [ok, h2, h4]⟩
        · simp at h
    · simp at h
  | k, .list [], t, h => by simp [toTerm] at h
  | k, .list [.atom a], t, h => by simp [toTerm] at h
  | k, .list (.list _ :: _), t, h => by simp [toTerm] at h
  | k, .list [.atom a, x, .atom _], t, h => by simp [toTerm] at h
  | k, .list [.atom a, x, .list []], t, h => by simp [toTerm] at h
  | k, .list [.atom a, x, .list (.list _ :: _)], t, h => by simp [toTerm] at h
  | k, .list (.atom a :: x :: y :: z :: l), t, h => by simp [toTerm] at h
theorem toTerms_some : ∀ (k : Nat) (l : List Tree) (b : List Term), toTerms k l = some b → l = ofTerms b ∧ oks k b = true
  | k, [], b, h => by
    simp only [toTerms, Option.some.injEq] at h; subst h; exact ⟨rfl, rfl⟩
  | k, x :: l, b, h => by
    rw [toTerms] at h
    split at h
    · simp at h
    · rename_i u hu
      rw [Option.map_eq_some_iff] at h
      obtain ⟨v, hv, rfl⟩ := h
      obtain ⟨h1, h2⟩ := toTerm_some k x u hu
      obtain ⟨h3, h4⟩ := toTerms_some k l v hv
      exact ⟨by rw [h1, h3]; rfl, by simp [oks, h2, h4]⟩
end

mutual
theorem toTerm_of : ∀ (k : Nat) (t : Term), ok k t = true → toTerm k (ofTerm t) = some t
  | k, .nm s, h => by rw [ok] at h; rw [ofTerm, toTerm, if_pos h]
  | k, .ix n, h => by
    simp only [ok, decide_eq_true_eq] at h
    rw [ofTerm, toTerm, if_neg (by simp [dec_noName n h.2]), dec_index n h.2]
    simp [h.1]
  | k, .lam t, h => by
    rw [ok] at h
    rw [ofTerm, toTerm]
    simp [toTerm_of (k + 1) t h]
  | k, .app t b, h => by
    rw [ok, Bool.and_eq_true] at h
    rw [ofTerm, toTerm]
    simp [toTerm_of k t h.1, toTerms_of k b h.2]
theorem toTerms_of : ∀ (k : Nat) (b : List Term), oks k b = true → toTerms k (ofTerms b) = some b
  | k, [], h => by rw [ofTerms, toTerms]
  | k, t :: l, h => by
    rw [oks, Bool.and_eq_true] at h
    rw [ofTerms, toTerms, toTerm_of k t h.1, toTerms_of k l h.2]
    rfl
end


mutual
def wfT : Tree → Bool
  | .atom s => !s.isEmpty && s.all isAtomB
  | .list l => !l.isEmpty && wfL l
def wfL : List Tree → Bool
  | [] => true
  | t :: l => wfT t && wfL l
end

/-- A text at whose beginning no atom goes on. -/
def stops : B → Bool
  | [] => true
  | c :: _ => !isAtomB c

theorem take_atom (s r : B) (hs : s.all isAtomB = true) (hr : stops r = true) : (s ++ r).takeWhile isAtomB = s := by
  induction s with
  | nil =>
    cases r with
    | nil => rfl
    | cons c r => simp [stops] at hr; simp [hr]
  | cons c s ih =>
    simp only [List.all_cons, Bool.and_eq_true] at hs
    simp [hs.1, ih hs.2]

theorem atom_inj (s s' r r' : B) (hs : s.all isAtomB = true) (hs' : s'.all isAtomB = true) (hr : stops r = true) (hr' : stops r' = true) (h : s ++ r = s' ++ r') : s = s' ∧ r = r' := by
  have h1 := take_atom s r hs hr
  rw [h, take_atom s' r' hs' hr'] at h1
  subst h1
  exact ⟨rfl, List.append_cancel_left h⟩

theorem not_atom_40 : isAtomB 40 = false := by decide
theorem not_atom_41 : isAtomB 41 = false := by decide
theorem not_atom_32 : isAtomB 32 = false := by decide

mutual
theorem textT_inj : ∀ (t u : Tree) (r r' : B), wfT t = true → wfT u = true → stops r = true → stops r' = true → textT t ++ r = textT u ++ r' → t = u ∧ r = r'
  | .atom s, .atom s', r, r', h1, h2, h3, h4, h => by
    simp only [wfT, Bool.and_eq_true] at h1 h2
    rw [textT, textT] at h
    obtain ⟨a, b⟩ := atom_inj s s' r r' h1.2 h2.2 h3 h4 h
    exact ⟨by rw [a], b⟩
  | .atom s, .list l, r, r', h1, h2, h3, h4, h => by
    simp only [wfT, Bool.and_eq_true] at h1 h2
    rw [textT, textT] at h
    cases s with
    | nil => simp at h1
    | cons c s =>
      simp only [List.cons_append, List.cons.injEq] at h
      have := h1.2
      simp only [List.all_cons, Bool.and_eq_true, h.1, not_atom_40] at this
      simp at this
  | .list l, .atom s, r, r', h1, h2, h3, h4, h => by
    simp only [wfT, Bool.and_eq_true] at h1 h2
    rw [textT, textT] at h
    cases s with
    | nil => simp at h2
    | cons c s =>
      simp only [List.cons_append, List.cons.injEq] at h
      have := h2.2
      simp only [List.all_cons, Bool.and_eq_true, ← h.1, not_atom_40] at this
      simp at this
  | .list l, .list l', r, r', h1, h2, h3, h4, h => by
    simp only [wfT, Bool.and_eq_true] at h1 h2
    rw [textT, textT] at h
    simp only [List.cons_append, List.append_assoc, List.cons.injEq, true_and, List.nil_append] at h
    obtain ⟨a, b⟩ := textL_inj l l' r r' h1.2 h2.2 (by simpa using h1.1) (by simpa using h2.1) h
    exact ⟨by rw [a], b⟩
theorem textL_inj : ∀ (l l' : List Tree) (r r' : B), wfL l = true → wfL l' = true → l ≠ [] → l' ≠ [] → textL l ++ 41 :: r = textL l' ++ 41 :: r' → l = l' ∧ r = r'
  | [], _, _, _, _, _, h, _, _ => absurd rfl h
  | _, [], _, _, _, _, _, h, _ => absurd rfl h
  | [t], [u], r, r', h1, h2, _, _, h => by
    simp only [wfL, Bool.and_eq_true] at h1 h2
    rw [textL, textL] at h
    obtain ⟨a, b⟩ := textT_inj t u (41 :: r) (41 :: r') h1.1 h2.1 (by simp [stops, not_atom_41]) (by simp [stops, not_atom_41]) h
    exact ⟨by rw [a], by simpa using b⟩
  | [t], u :: v :: l', r, r', h1, h2, _, _, h => by
    simp only [wfL, Bool.and_eq_true] at h1 h2
    rw [textL, textL] at h
    simp only [List.append_assoc, List.cons_append] at h
    obtain ⟨a, b⟩ := textT_inj t u (41 :: r) _ h1.1 h2.1 (by simp [stops, not_atom_41]) (by simp [stops, not_atom_32]) h
    simp at b
  | t :: w :: l, [u], r, r', h1, h2, _, _, h => by
    simp only [wfL, Bool.and_eq_true] at h1 h2
    rw [textL, textL] at h
    simp only [List.append_assoc, List.cons_append] at h
    obtain ⟨a, b⟩ := textT_inj t u _ (41 :: r') h1.1 h2.1 (by simp [stops, not_atom_32]) (by simp [stops, not_atom_41]) h
    simp at b
  | t :: w :: l, u :: v :: l', r, r', h1, h2, _, _, h => by
    rw [wfL, Bool.and_eq_true] at h1 h2
    rw [textL, textL] at h
    simp only [List.append_assoc, List.cons_append] at h
    obtain ⟨a, b⟩ := textT_inj t u _ _ h1.1 h2.1 (by simp [stops, not_atom_32]) (by simp [stops, not_atom_32]) h
    simp only [List.cons.injEq, true_and] at b
    obtain ⟨c, d⟩ := textL_inj (w :: l) (v :: l') r r' h1.2 h2.2 (by simp) (by simp) b
    exact ⟨by rw [a, c], d⟩
end

theorem isName_atom (s : B) (h : isName s = true) : s ≠ [] ∧ s.all isAtomB = true := by
  cases s with
  | nil => simp [isName] at h
  | cons c r =>
    simp only [isName, Bool.and_eq_true, List.all_eq_true] at h
    refine ⟨by simp, ?_⟩
    simp only [List.all_cons, Bool.and_eq_true, List.all_eq_true]
    refine ⟨?_, fun x hx => ?_⟩
    · have := h.1.1; simp only [isLow, Bool.and_eq_true] at this; simp [isAtomB, this]
    · have := h.2 x hx; simp only [isDig, Bool.and_eq_true] at this; simp [isAtomB, this]

mutual
theorem wf_ofTerm : ∀ (k : Nat) (t : Term), ok k t = true → wfT (ofTerm t) = true
  | k, .nm s, h => by
    rw [ok] at h
    obtain ⟨h1, h2⟩ := isName_atom s h
    simp [ofTerm, wfT, h1, h2]
  | k, .ix n, h => by
    simp only [ok, decide_eq_true_eq] at h
    simp only [ofTerm, wfT, dec_atom n h.2, Bool.and_true]
    simp [dec_ne n h.2]
  | k, .lam t, h => by
    rw [ok] at h
    simp [ofTerm, wfT, wfL, wf_ofTerm (k + 1) t h, sLam, isAtomB]
  | k, .app t b, h => by
    rw [ok, Bool.and_eq_true] at h
    simp [ofTerm, wfT, wfL, wf_ofTerm k t h.1, wf_ofTerms k b h.2, sApp, sM, isAtomB]
theorem wf_ofTerms : ∀ (k : Nat) (b : List Term), oks k b = true → wfL (ofTerms b) = true
  | k, [], h => rfl
  | k, t :: l, h => by
    rw [oks, Bool.and_eq_true] at h
    simp [ofTerms, wfL, wf_ofTerm k t h.1, wf_ofTerms k l h.2]
end

mutual
theorem ok_mono : ∀ (k m : Nat) (t : Term), k ≤ m → ok k t = true → ok m t = true
  | _, _, .nm s, _, h => h
  | k, m, .ix n, hk, h => by simp only [ok, decide_eq_true_eq] at h ⊢; omega
  | k, m, .lam t, hk, h => by rw [ok] at h ⊢; exact ok_mono (k + 1) (m + 1) t (by omega) h
  | k, m, .app t b, hk, h => by
    rw [ok, Bool.and_eq_true] at h ⊢
    exact ⟨ok_mono k m t hk h.1, oks_mono k m b hk h.2⟩
theorem oks_mono : ∀ (k m : Nat) (b : List Term), k ≤ m → oks k b = true → oks m b = true
  | _, _, [], _, _ => rfl
  | k, m, t :: l, hk, h => by
    rw [oks, Bool.and_eq_true] at h ⊢
    exact ⟨ok_mono k m t hk h.1, oks_mono k m l hk h.2⟩
end

theorem text_inj (k k' : Nat) (t u : Term) (ht : ok k t = true) (hu : ok k' u = true) (h : text t = text u) : t = u := by
  unfold text at h
  have e := (textT_inj (ofTerm t) (ofTerm u) [] [] (wf_ofTerm k t ht) (wf_ofTerm k' u hu) rfl rfl (by simpa using h)).1
  have a := toTerm_of (max k k') t (ok_mono _ _ _ (by omega) ht)
  rw [e, toTerm_of (max k k') u (ok_mono _ _ _ (by omega) hu)] at a
  injection a with a
  exact a.symm

/-- Byte by byte. -/
def ltB : B → B → Bool
  | _, [] => false
  | [], _ :: _ => true
  | a :: as, b :: bs => if a < b then true else if b < a then false else ltB as bs

theorem ltB_irrefl : ∀ a, ltB a a = false
  | [] => rfl
  | a :: as => by simp [ltB, ltB_irrefl as]

theorem ltB_trans : ∀ a b c, ltB a b = true → ltB b c = true → ltB a c = true
  | a, b, [], h1, h2 => by simp [ltB] at h2
  | a, [], c :: cs, h1, h2 => by simp [ltB] at h1
  | [], b :: bs, c :: cs, h1, h2 => rfl
  | a :: as, b :: bs, c :: cs, h1, h2 => by
    simp only [ltB] at h1 h2 ⊢
    simp only [UInt8.lt_iff_toNat_lt] at *
    split at h1
    · split at h2
      · rw [if_pos (by omega)]
      · split at h2
        · simp at h2
        · rw [if_pos (by omega)]
    · split at h1
      · simp at h1
      · split at h2
        · rw [if_pos (by omega)]
        · split at h2
          · simp at h2
          · rw [if_neg (by omega), if_neg (by omega)]
            exact ltB_trans as bs cs h1 h2

theorem ltB_total : ∀ a b, ltB a b = false → ltB b a = false → a = b
  | [], [], _, _ => rfl
  | [], b :: bs, h, _ => by simp [ltB] at h
  | a :: as, [], _, h => by simp [ltB] at h
  | a :: as, b :: bs, h1, h2 => by
    simp only [ltB] at h1 h2
    simp only [UInt8.lt_iff_toNat_lt] at *
    split at h1
    · simp at h1
    · split at h2
      · simp at h2
      · rw [if_neg (by assumption)] at h1
        rw [ltB_total as bs h1 h2, UInt8.toNat.inj (show a.toNat = b.toNat by omega)]

/-- Not greater. -/
def leB (a b : B) : Bool := !ltB b a

theorem leB_trans (a b c : B) (h1 : leB a b = true) (h2 : leB b c = true) : leB a c = true := by
  unfold leB at *
  simp only [Bool.not_eq_true'] at *
  cases h : ltB c a with
  | false => rfl
  | true =>
    exfalso
    cases h3 : ltB a b with
    | true =>
      have := ltB_trans c a b h h3
      rw [this] at h2; exact absurd h2 (by simp)
    | false =>
      have := ltB_total a b h3 h1
      subst this
      rw [h] at h2; exact absurd h2 (by simp)

/-- A term into a sorted bag: behind those that are not greater. -/
def ins (t : Term) : List Term → List Term
  | [] => [t]
  | u :: l => if ltB (text t) (text u) then t :: u :: l else u :: ins t l

def sortBag (l : List Term) : List Term := l.foldl (fun acc t => ins t acc) []

mutual
def sort : Term → Term
  | .nm s => .nm s
  | .ix n => .ix n
  | .lam t => .lam (sort t)
  | .app t b => .app (sort t) (sortBag (sorts b))
def sorts : List Term → List Term
  | [] => []
  | t :: l => sort t :: sorts l
end

def Asc (l : List Term) : Prop := l.Pairwise (fun a b => leB (text a) (text b) = true)

theorem ins_perm (t : Term) (l : List Term) : (ins t l).Perm (t :: l) := by
  induction l with
  | nil => exact .refl _
  | cons u l ih =>
    unfold ins
    split
    · exact .refl _
    · exact (ih.cons u).trans (.swap _ _ _)

theorem ins_asc (t : Term) (l : List Term) (h : Asc l) : Asc (ins t l) := by
  unfold Asc at *
  induction l with
  | nil => simp [ins]
  | cons u l ih =>
    rw [List.pairwise_cons] at h
    unfold ins
    split
    · rename_i hlt
      have h0 : leB (text t) (text u) = true := by
        unfold leB
        cases h3 : ltB (text u) (text t) with
        | false => rfl
        | true =>
          have := ltB_trans _ _ _ hlt h3
          rw [ltB_irrefl] at this; exact absurd this (by simp)
      refine List.pairwise_cons.2 ⟨fun x hx => ?_, List.pairwise_cons.2 h⟩
      rcases List.mem_cons.1 hx with rfl | hx
      · exact h0
      · exact leB_trans _ _ _ h0 (h.1 x hx)
    · rename_i hlt
      refine List.pairwise_cons.2 ⟨fun x hx => ?_, ih h.2⟩
      rcases List.mem_cons.1 ((ins_perm t l).mem_iff.1 hx) with rfl | hx
      · simp [leB, hlt]
      · exact h.1 x hx

theorem foldl_ins (l acc : List Term) (h : Asc acc) : Asc (l.foldl (fun acc t => ins t acc) acc) ∧ (l.foldl (fun acc t => ins t acc) acc).Perm (acc ++ l) := by
  induction l generalizing acc with
  | nil => exact ⟨h, by simp⟩
  | cons t l ih =>
    obtain ⟨h1, h2⟩ := ih (ins t acc) (ins_asc t acc h)
    refine ⟨h1, h2.trans ?_⟩
    refine ((ins_perm t acc).append_right l).trans ?_
    exact (List.perm_middle).symm

theorem sortBag_asc (l : List Term) : Asc (sortBag l) := (foldl_ins l [] List.Pairwise.nil).1
theorem sortBag_perm (l : List Term) : (sortBag l).Perm l := (foldl_ins l [] List.Pairwise.nil).2

theorem oks_mem (k : Nat) (l : List Term) : oks k l = true ↔ ∀ t ∈ l, ok k t = true := by
  induction l with
  | nil => simp [oks]
  | cons t l ih => simp [oks, ih]

/-- A bag has one sorted form. -/
theorem sortBag_unique (k : Nat) (l m : List Term) (hl : oks k l = true) (hp : m.Perm l) (ha : Asc m) : m = sortBag l := by
  refine List.Perm.eq_of_pairwise (le := fun a b => leB (text a) (text b) = true) ?_ ha (sortBag_asc l) (hp.trans (sortBag_perm l).symm)
  intro a b h1 h2 h3 h4
  rw [oks_mem] at hl
  refine text_inj k k a b (hl a (hp.mem_iff.1 h1)) (hl b ((sortBag_perm l).mem_iff.1 h2)) ?_
  unfold leB at h3 h4
  exact ltB_total _ _ (by simpa using h4) (by simpa using h3)

theorem oks_perm (k : Nat) (l m : List Term) (hp : m.Perm l) : oks k m = oks k l := by
  rw [Bool.eq_iff_iff, oks_mem, oks_mem]
  exact ⟨fun h t ht => h t (hp.mem_iff.2 ht), fun h t ht => h t (hp.mem_iff.1 ht)⟩

mutual
theorem ok_sort : ∀ (k : Nat) (t : Term), ok k (sort t) = ok k t
  | k, .nm s => rfl
  | k, .ix n => rfl
  | k, .lam t => by rw [sort, ok, ok, ok_sort (k + 1) t]
  | k, .app t b => by rw [sort, ok, ok, ok_sort k t, oks_perm k _ _ (sortBag_perm _), oks_sorts k b]
theorem oks_sorts : ∀ (k : Nat) (b : List Term), oks k (sorts b) = oks k b
  | k, [] => rfl
  | k, t :: l => by rw [sorts, oks, oks, ok_sort k t, oks_sorts k l]
end

theorem sizes_sum (l : List Term) : sizes l = (l.map size).sum := by
  induction l with
  | nil => rfl
  | cons t l ih => simp [sizes, ih]

theorem sizes_perm (l m : List Term) (h : m.Perm l) : sizes m = sizes l := by
  rw [sizes_sum, sizes_sum]
  exact (h.map size).sum_nat

mutual
theorem size_sort : ∀ (t : Term), size (sort t) = size t
  | .nm s => rfl
  | .ix n => rfl
  | .lam t => by rw [sort, size, size, size_sort t]
  | .app t b => by rw [sort, size, size, size_sort t, sizes_perm _ _ (sortBag_perm _), sizes_sorts b]
theorem sizes_sorts : ∀ (b : List Term), sizes (sorts b) = sizes b
  | [] => rfl
  | t :: l => by rw [sorts, sizes, sizes, size_sort t, sizes_sorts l]
end

mutual
/-- How many nodes a tree has. -/
def nodes : Tree → Nat
  | .atom _ => 1
  | .list l => 1 + nodesL l
def nodesL : List Tree → Nat
  | [] => 0
  | t :: l => nodes t + nodesL l
end

theorem nodesL_at : ∀ (l : List Tree) (k : Nat) (t : Tree), l[k]? = some t → nodes t ≤ nodesL l
  | [], k, t, h => by simp at h
  | u :: l, 0, t, h => by simp at h; subst h; rw [nodesL]; omega
  | u :: l, k + 1, t, h => by
    have := nodesL_at l k t (by simpa using h)
    rw [nodesL]; omega

theorem nodes_pos (t : Tree) : 1 ≤ nodes t := by cases t <;> simp [nodes]

theorem wfL_at : ∀ (l : List Tree) (k : Nat) (t : Tree), wfL l = true → l[k]? = some t → wfT t = true
  | [], k, t, h, e => by simp at e
  | u :: l, 0, t, h, e => by simp at e; subst e; rw [wfL, Bool.and_eq_true] at h; exact h.1
  | u :: l, k + 1, t, h, e => by rw [wfL, Bool.and_eq_true] at h; exact wfL_at l k t h.2 (by simpa using e)

theorem ofTerms_length : ∀ l : List Term, (ofTerms l).length = l.length
  | [] => rfl
  | t :: l => by rw [ofTerms, List.length_cons, List.length_cons, ofTerms_length l]

theorem ofTerms_at : ∀ (l : List Term) (k : Nat) (t : Term), l[k]? = some t → (ofTerms l)[k]? = some (ofTerm t)
  | [], k, t, h => by simp at h
  | u :: l, 0, t, h => by simp at h; subst h; simp [ofTerms]
  | u :: l, k + 1, t, h => by rw [ofTerms, List.getElem?_cons_succ]; exact ofTerms_at l k t (by simpa using h)

theorem size_pos (t : Term) : 1 ≤ size t := by cases t <;> simp [size] <;> omega

theorem sizes_take (l : List Term) (k : Nat) (t : Term) (h : l[k]? = some t) : sizes (l.take (k + 1)) = sizes (l.take k) + size t := by
  rw [List.take_add_one, h, sizes_sum, sizes_sum]
  simp

theorem sizes_le (l : List Term) (k : Nat) : sizes (l.take k) ≤ sizes l := by
  rw [sizes_sum, sizes_sum]
  have : (l.take k).map size ++ (l.drop k).map size = l.map size := by rw [← List.map_append, List.take_append_drop]
  rw [← this, List.sum_append]
  omega

end Rt

/-! More laws of texts and terms. -/
namespace Rt
theorem textL_sum : ∀ l : List Tree, l ≠ [] → (textL l).length + 1 = (l.map fun t => (textT t).length + 1).sum
  | [], h => absurd rfl h
  | [t], _ => by simp [textL]
  | t :: u :: l, _ => by
    have := textL_sum (u :: l) (by simp)
    rw [textL, List.map_cons, List.sum_cons, ← this]
    simp; omega

theorem ofTerms_map : ∀ l : List Term, ofTerms l = l.map ofTerm
  | [] => rfl
  | t :: l => by rw [ofTerms, List.map_cons, ofTerms_map l]

theorem text_lam (t : Term) : (text (.lam t)).length = (text t).length + 6 := by
  simp [text, ofTerm, textT, textL, sLam]

theorem text_app (t : Term) (b : List Term) : (text (.app t b)).length = (text t).length + (b.map fun u => (text u).length + 1).sum + 10 := by
  have h := textL_sum (.atom sM :: ofTerms b) (by simp)
  rw [List.map_cons, List.sum_cons, ofTerms_map, List.map_map] at h
  have e : ((fun t => (textT t).length + 1) ∘ ofTerm) = fun u => (text u).length + 1 := by funext u; rfl
  rw [e] at h
  rw [text, ofTerm, textT, textL, textL, textL, textT, ofTerms_map]
  simp only [textT, List.length_cons, List.length_append, sApp, sM, List.length_nil] at h ⊢
  show _ = (textT (ofTerm t)).length + _ + 10
  omega

mutual
theorem text_sort_len : ∀ t : Term, (text (sort t)).length = (text t).length
  | .nm s => rfl
  | .ix n => rfl
  | .lam t => by rw [sort, text_lam, text_lam, text_sort_len t]
  | .app t b => by
    rw [sort, text_app, text_app, text_sort_len t, ((sortBag_perm (sorts b)).map _).sum_nat, texts_sort_len b]
theorem texts_sort_len : ∀ b : List Term, ((sorts b).map fun u => (text u).length + 1).sum = (b.map fun u => (text u).length + 1).sum
  | [] => rfl
  | t :: l => by rw [sorts, List.map_cons, List.sum_cons, List.map_cons, List.sum_cons, texts_sort_len l, text_sort_len t]
end

theorem text_mem (t : Term) (b : List Term) (u : Term) (h : u ∈ b) : (text u).length ≤ (text (.app t b)).length := by
  rw [text_app]
  have : (text u).length + 1 ≤ (b.map fun u => (text u).length + 1).sum := by
    induction b with
    | nil => simp at h
    | cons x b ih =>
      rw [List.map_cons, List.sum_cons]
      rcases List.mem_cons.1 h with rfl | h
      · omega
      · have := ih h; omega
  omega

theorem bag_len (t : Term) (b : List Term) : b.length ≤ (text (.app t b)).length := by
  rw [text_app]
  have : b.length ≤ (b.map fun u => (text u).length + 1).sum := by
    induction b with
    | nil => simp
    | cons x b ih => simp at ih ⊢; omega
  omega

theorem sorts_map : ∀ l : List Term, sorts l = l.map sort
  | [] => rfl
  | t :: l => by rw [sorts, List.map_cons, sorts_map l]

theorem sorts_take (l : List Term) (k : Nat) (t : Term) (h : l[k]? = some t) : sorts (l.take (k + 1)) = sorts (l.take k) ++ [sort t] := by
  rw [List.take_add_one, h, sorts_map, sorts_map]; simp

theorem ofTerms_append (a b : List Term) : ofTerms (a ++ b) = ofTerms a ++ ofTerms b := by
  rw [ofTerms_map, ofTerms_map, ofTerms_map, List.map_append]

theorem sorts_length (l : List Term) : (sorts l).length = l.length := by rw [sorts_map]; simp

theorem size_mem (b : List Term) (u : Term) (h : u ∈ b) : size u ≤ sizes b := by
  induction b with
  | nil => simp at h
  | cons x b ih =>
    rw [sizes]
    rcases List.mem_cons.1 h with rfl | h
    · omega
    · have := ih h; omega
end Rt

/-! What is read is written again: a text of the tree that was read out of it. -/
namespace Rt

theorem cut_add (s : B) (i j k : Nat) (h : i ≤ j) (h2 : j ≤ k) : cut s i k = cut s i j ++ cut s j k := by
  unfold cut
  rw [show k - i = (j - i) + (k - j) by omega, List.take_add, List.drop_drop, show i + (j - i) = j by omega]

theorem cut_one (s : B) (i : Nat) (c : UInt8) (h : s[i]? = some c) : cut s i (i + 1) = [c] := by
  have hi : i < s.length := by
    rcases Nat.lt_or_ge i s.length with h1 | h1
    · exact h1
    · rw [List.getElem?_eq_none h1] at h; cases h
  have hc : s[i] = c := by rw [List.getElem?_eq_getElem hi] at h; exact Option.some.inj h
  unfold cut
  rw [List.drop_eq_getElem_cons hi, show i + 1 - i = 1 by omega, hc]
  rfl

theorem rd_text (s : B) (f : Nat) : (∀ i d t e, rd s f i d = some (t, e) → textT t = cut s i e) ∧ (∀ i d l e, rdL s f i d = some (l, e) → textL l ++ [41] = cut s i e) := by
  induction f with
  | zero => constructor <;> (intro i d t e h; simp [rd, rdL] at h)
  | succ f ih =>
    constructor
    · intro i d t e h
      rw [rd] at h
      split at h
      · rename_i hc
        split at h
        · rw [Option.map_eq_some_iff] at h
          obtain ⟨⟨l, e'⟩, hl, hp⟩ := h
          have h1 := ih.2 _ _ _ _ hl
          have h2 := (rd_bounds s f).2 _ _ _ _ hl
          simp only [Prod.mk.injEq] at hp
          obtain ⟨rfl, rfl⟩ := hp
          rw [textT, h1, cut_add s i (i + 1) e' (by omega) (by omega), cut_one s i 40 hc]
          rfl
        · simp at h
      · split at h
        · simp only [Option.some.injEq, Prod.mk.injEq] at h
          obtain ⟨rfl, rfl⟩ := h
          rw [textT]
        · simp at h
    · intro i d l e h
      rw [rdL] at h
      split at h
      · simp at h
      · rename_i t e' ht
        have h1 := ih.1 _ _ _ _ ht
        have h2 := (rd_bounds s f).1 _ _ _ _ ht
        split at h
        · rename_i hc
          simp only [Option.some.injEq, Prod.mk.injEq] at h
          obtain ⟨rfl, rfl⟩ := h
          rw [textL, h1, cut_add s i e' (e' + 1) (by omega) (by omega), cut_one s e' 41 hc]
        · split at h
          · rename_i hc
            rw [Option.map_eq_some_iff] at h
            obtain ⟨⟨l', e''⟩, hl, hp⟩ := h
            have h3 := ih.2 _ _ _ _ hl
            have h4 := (rd_bounds s f).2 _ _ _ _ hl
            simp only [Prod.mk.injEq] at hp
            obtain ⟨rfl, rfl⟩ := hp
            cases l' with
            | nil => exact absurd rfl h4.2.2
            | cons u m =>
              rw [textL, h1, cut_add s i e' e'' (by omega) (by omega), cut_add s e' (e' + 1) e'' (by omega) (by omega), cut_one s e' 32 hc, ← h3]
              simp
          · simp at h

theorem parse_text (l : B) (t : Tree) (h : parse l = some t) : textT t = l := by
  unfold parse at h
  split at h
  · split at h
    · rename_i x e hr
      split at h
      · rename_i he
        simp only [Option.some.injEq] at h
        subst h
        rw [(rd_text l _).1 _ _ _ _ hr, he]
        simp [cut]
      · simp at h
    · simp at h
  · simp at h

theorem bag_short : ∀ l : List Term, l.length ≤ sizes l
  | [] => by simp
  | u :: l => by have := size_pos u; have := bag_short l; simp only [sizes, List.length_cons]; omega

end Rt
