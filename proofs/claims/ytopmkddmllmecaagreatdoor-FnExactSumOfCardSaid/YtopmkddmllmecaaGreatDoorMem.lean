/- How trees and terms lie in the memory of the program and of the model. Terms in the memory of the program, with the blocks that they lie in. -/
import Derived.Test.YtopmkddmllmecaaGreatDoorPure
import Derived.Below
import Derived.Laws.OwnMore
import Derived.Deep.AppendLies
import Derived.Deep.Draws
import Derived.Laws.Rows
/-! How trees and terms lie in the memory of the program and of the model. -/
namespace Rt
open Go Go.RowKit

/-- The bytes of a text. -/
def st (s : B) : Value := .string ⟨s.toArray⟩

/-- The cells of a world that another one keeps. -/
def Keeps (w w' : World) : Prop := ∀ (p : Addr) (v : Value), w.cell? p = some v → w'.cell? p = some v

theorem Keeps.refl (w : World) : Keeps w w := fun _ _ h => h
theorem Keeps.trans {a b c : World} (h : Keeps a b) (k : Keeps b c) : Keeps a c := fun p v e => k p v (h p v e)

theorem block_of_add (a : Addr) (n : Nat) : (a.add n).block = a.block := by unfold Addr.add; split <;> rfl

theorem below_keeps {w w' : World} (h : Below w.heap.size w w') : Keeps w w' := fun p v e => by
  rw [h.cell (World.block_lt_of_cell? w p e)]; exact e

/-- The cells of a block, from its first on. -/
def Cells (w : World) (b : Nat) (xs : List Value) : Prop := ∀ j u, xs[j]? = some u → w.cell? ⟨b, j, none⟩ = some u

theorem Cells.keep {w w' : World} (h : Keeps w w') {b : Nat} {xs : List Value} (e : Cells w b xs) : Cells w' b xs := fun j u hu => h _ _ (e j u hu)

mutual
/-- A value of spec's struct of an atom and parts that is a tree. -/
def RepS (w : World) : Tree → Value → Prop
  | .atom s, v => v = .agg #[st s, .slice none 0 0]
  | .list l, v => ∃ b c xs, v = .agg #[st [], .slice (some ⟨b, 0, none⟩) l.length c] ∧ l.length ≤ c ∧ c ≤ maxLen ∧ Cells w b xs ∧ RepF w l xs
/-- The cells of spec's trees, two for each. -/
def RepF (w : World) : List Tree → List Value → Prop
  | [], xs => xs = []
  | t :: l, xs => ∃ x y r, xs = x :: y :: r ∧ RepS w t (.agg #[x, y]) ∧ RepF w l r
end

mutual
theorem RepS.keep {w w' : World} (h : Keeps w w') : ∀ (t : Tree) (v : Value), RepS w t v → RepS w' t v
  | .atom s, v, e => by rw [RepS] at e ⊢; exact e
  | .list l, v, e => by
    rw [RepS] at e ⊢
    obtain ⟨b, c, xs, hv, h1, h2, h3, hl⟩ := e
    exact ⟨b, c, xs, hv, h1, h2, h3.keep h, RepF.keep h l xs hl⟩
theorem RepF.keep {w w' : World} (h : Keeps w w') : ∀ (l : List Tree) (xs : List Value), RepF w l xs → RepF w' l xs
  | [], xs, e => by rw [RepF] at e ⊢; exact e
  | t :: l, xs, e => by
    rw [RepF] at e ⊢
    obtain ⟨x, y, r, h1, h3, h4⟩ := e
    exact ⟨x, y, r, h1, RepS.keep h t _ h3, RepF.keep h l r h4⟩
end

theorem RepF.length {w : World} : ∀ (l : List Tree) (xs : List Value), RepF w l xs → xs.length = l.length * 2
  | [], xs, e => by rw [RepF] at e; subst e; rfl
  | t :: l, xs, e => by
    rw [RepF] at e
    obtain ⟨x, y, r, rfl, _, h4⟩ := e
    simp [RepF.length l r h4]; omega

theorem RepF.append {w : World} : ∀ (l m : List Tree) (xs ys : List Value), RepF w l xs → RepF w m ys → RepF w (l ++ m) (xs ++ ys)
  | [], m, xs, ys, e, f => by rw [RepF] at e; subst e; exact f
  | t :: l, m, xs, ys, e, f => by
    rw [RepF] at e
    obtain ⟨x, y, r, rfl, h3, h4⟩ := e
    rw [List.cons_append, RepF]
    exact ⟨x, y, r ++ ys, rfl, h3, RepF.append l m r ys h4 f⟩

/-- The two cells of a tree of a list. -/
theorem RepF.at {w : World} : ∀ (l : List Tree) (xs : List Value) (i : Nat) (t : Tree), RepF w l xs → l[i]? = some t → ∃ x y, xs[i * 2]? = some x ∧ xs[i * 2 + 1]? = some y ∧ RepS w t (.agg #[x, y])
  | [], xs, i, t, e, h => by simp at h
  | u :: l, xs, 0, t, e, h => by
    rw [RepF] at e
    obtain ⟨x, y, r, rfl, h3, h4⟩ := e
    simp at h; subst h
    exact ⟨x, y, by simp, by simp, h3⟩
  | u :: l, xs, i + 1, t, e, h => by
    rw [RepF] at e
    obtain ⟨x, y, r, rfl, h3, h4⟩ := e
    obtain ⟨x', y', a, b, c⟩ := RepF.at l r i t h4 (by simpa using h)
    refine ⟨x', y', ?_, ?_, c⟩
    · rw [show (i + 1) * 2 = i * 2 + 1 + 1 by omega]; simpa using a
    · rw [show (i + 1) * 2 + 1 = i * 2 + 1 + 1 + 1 by omega]; simpa using b

mutual
/-- A pointer to impl's struct of an atom and a list that is a tree. -/
def RepX (w : World) : Tree → Value → Prop
  | .atom s, v => ∃ b, v = .pointer (some ⟨b, 0, none⟩) ∧ w.cell? ⟨b, 0, none⟩ = some (st s) ∧ w.cell? ⟨b, 1, none⟩ = some (.slice none 0 0)
  | .list l, v => ∃ b g c xs, v = .pointer (some ⟨b, 0, none⟩) ∧ w.cell? ⟨b, 0, none⟩ = some (st []) ∧ w.cell? ⟨b, 1, none⟩ = some (.slice (some ⟨g, 0, none⟩) l.length c) ∧
      l.length ≤ c ∧ c ≤ maxLen ∧ Cells w g xs ∧ RepXs w l xs
/-- Pointers to trees. -/
def RepXs (w : World) : List Tree → List Value → Prop
  | [], xs => xs = []
  | t :: l, xs => ∃ x r, xs = x :: r ∧ RepX w t x ∧ RepXs w l r
end

mutual
theorem RepX.keep {w w' : World} (h : Keeps w w') : ∀ (t : Tree) (v : Value), RepX w t v → RepX w' t v
  | .atom s, v, e => by
    rw [RepX] at e ⊢
    obtain ⟨b, hv, h1, h2⟩ := e
    exact ⟨b, hv, h _ _ h1, h _ _ h2⟩
  | .list l, v, e => by
    rw [RepX] at e ⊢
    obtain ⟨b, g, c, xs, hv, h1, h2, h3, h4, h5, h6⟩ := e
    exact ⟨b, g, c, xs, hv, h _ _ h1, h _ _ h2, h3, h4, h5.keep h, RepXs.keep h l xs h6⟩
theorem RepXs.keep {w w' : World} (h : Keeps w w') : ∀ (l : List Tree) (xs : List Value), RepXs w l xs → RepXs w' l xs
  | [], xs, e => by rw [RepXs] at e ⊢; exact e
  | t :: l, xs, e => by
    rw [RepXs] at e ⊢
    obtain ⟨x, r, h1, h3, h4⟩ := e
    exact ⟨x, r, h1, RepX.keep h t _ h3, RepXs.keep h l r h4⟩
end

theorem RepXs.length {w : World} : ∀ (l : List Tree) (xs : List Value), RepXs w l xs → xs.length = l.length
  | [], xs, e => by rw [RepXs] at e; subst e; rfl
  | t :: l, xs, e => by
    rw [RepXs] at e
    obtain ⟨x, r, rfl, _, h4⟩ := e
    simp [RepXs.length l r h4]

theorem RepXs.append {w : World} : ∀ (l m : List Tree) (xs ys : List Value), RepXs w l xs → RepXs w m ys → RepXs w (l ++ m) (xs ++ ys)
  | [], m, xs, ys, e, f => by rw [RepXs] at e; subst e; exact f
  | t :: l, m, xs, ys, e, f => by
    rw [RepXs] at e
    obtain ⟨x, r, rfl, h3, h4⟩ := e
    rw [List.cons_append, RepXs]
    exact ⟨x, r ++ ys, rfl, h3, RepXs.append l m r ys h4 f⟩

theorem RepXs.at {w : World} : ∀ (l : List Tree) (xs : List Value) (i : Nat) (t : Tree), RepXs w l xs → l[i]? = some t → ∃ x, xs[i]? = some x ∧ RepX w t x
  | [], xs, i, t, e, h => by simp at h
  | u :: l, xs, 0, t, e, h => by
    rw [RepXs] at e
    obtain ⟨x, r, rfl, h3, h4⟩ := e
    simp at h; subst h
    exact ⟨x, by simp, h3⟩
  | u :: l, xs, i + 1, t, e, h => by
    rw [RepXs] at e
    obtain ⟨x, r, rfl, h3, h4⟩ := e
    obtain ⟨x', a, c⟩ := RepXs.at l r i t h4 (by simpa using h)
    exact ⟨x', by simpa using a, c⟩

/-- A slice value that holds the cells xs, n elements. -/
def Row (w : World) (v : Value) (n : Nat) (xs : List Value) : Prop :=
  ∃ A c, v = .slice A n c ∧ n ≤ c ∧ c ≤ maxLen ∧ (0 < n → ∃ g, A = some ⟨g, 0, none⟩ ∧ Cells w g xs)

theorem Row.keep {w w' : World} (h : Keeps w w') {v : Value} {n : Nat} {xs : List Value} (e : Row w v n xs) : Row w' v n xs := by
  obtain ⟨A, c, h1, h2, h3, h4⟩ := e
  refine ⟨A, c, h1, h2, h3, fun hn => ?_⟩
  obtain ⟨g, h5, h6⟩ := h4 hn
  exact ⟨g, h5, h6.keep h⟩

/-- The kind of a term, as impl numbers it. -/
def kindOf : Term → Nat
  | .nm _ => 0
  | .ix _ => 1
  | .lam _ => 2
  | .app _ _ => 3

mutual
/-- How many lam must be around a term for its indices. -/
def outer : Term → Nat
  | .nm _ => 0
  | .ix n => n + 1
  | .lam t => outer t - 1
  | .app t b => max (outer t) (outers b)
def outers : List Term → Nat
  | [] => 0
  | t :: l => max (outer t) (outers l)
end

mutual
theorem outer_le : ∀ (k : Nat) (t : Term), ok k t = true → outer t ≤ k ∧ outer t ≤ 100
  | k, .nm s, _ => by simp [outer]
  | k, .ix n, h => by simp [ok] at h; simp [outer]; omega
  | k, .lam t, h => by
    rw [ok] at h
    have := outer_le (k + 1) t h
    rw [outer]; omega
  | k, .app t b, h => by
    rw [ok, Bool.and_eq_true] at h
    have h1 := outer_le k t h.1
    have h2 := outers_le k b h.2
    rw [outer]; omega
theorem outers_le : ∀ (k : Nat) (l : List Term), oks k l = true → outers l ≤ k ∧ outers l ≤ 100
  | k, [], _ => by simp [outers]
  | k, t :: l, h => by
    rw [oks, Bool.and_eq_true] at h
    have h1 := outer_le k t h.1
    have h2 := outers_le k l h.2
    rw [outers]; omega
end

theorem outers_take : ∀ (l : List Term) (k : Nat) (t : Term), l[k]? = some t → outers (l.take (k + 1)) = max (outers (l.take k)) (outer t)
  | [], k, t, h => by simp at h
  | u :: l, 0, t, h => by
    simp at h; subst h
    simp [outers]
  | u :: l, k + 1, t, h => by
    have := outers_take l k t (by simpa using h)
    rw [List.take_succ_cons, outers, this, List.take_succ_cons, outers]
    omega

theorem outers_take_le (l : List Term) (k : Nat) : outers (l.take k) ≤ outers l := by
  induction l generalizing k with
  | nil => simp
  | cons u l ih =>
    cases k with
    | zero => simp [outers]
    | succ k => rw [List.take_succ_cons, outers, outers]; have := ih k; omega

/-- A block that is known whole. -/
def Blk (w : World) (g : Nat) (t : TypeId) (cs : Array Value) : Prop := w.heap[g]? = some (.cells cs t (0, 0))

section
variable {w w' : World} {g : Nat} {t : TypeId} {cs : Array Value}
theorem Blk.lt (h : Blk w g t cs) : g < w.heap.size := by
  rcases Nat.lt_or_ge g w.heap.size with hlt | hge
  · exact hlt
  · unfold Blk at h; rw [Array.getElem?_eq_none hge] at h; cases h
theorem Blk.cell (h : Blk w g t cs) (i : Nat) : w.cell? ⟨g, i, none⟩ = cs[i]? := cell_of_row w g i cs t (0, 0) h
theorem Blk.frozen (h : Blk w g t cs) (i : Nat) : w.frozen? ⟨g, i, none⟩ = false := by
  unfold Blk at h
  simp [World.frozen?, h]
theorem Blk.new (w : World) (t : TypeId) (cs : Array Value) : Blk (w.alloc (.cells cs t)) w.heap.size t cs := heap_alloc_new w _
theorem Blk.drewN (h : Blk w g t cs) (n : Nat) : Blk (w.drewN n) g t cs := h
theorem Blk.alloc (h : Blk w g t cs) (o : Obj) : Blk (w.alloc o) g t cs := (Below.heap_alloc w o g h.lt).trans h
theorem Blk.set_ (h : Blk w g t cs) (i : Nat) (u : Value) : Blk (w.setCell ⟨g, i, none⟩ u) g t (cs.setIfInBounds i u) := by
  unfold Blk at h ⊢
  simp [World.setCell, Array.getElem?_modify, h]
theorem Blk.far (h : Blk w g t cs) {p : Addr} (hp : g ≠ p.block) (u : Value) : Blk (w.setCell p u) g t cs := (Below.heap_setCell w p u g hp).trans h
theorem Blk.below {B : Nat} (h : Blk w g t cs) (hb : Below B w w') (hg : g < B) : Blk w' g t cs := (hb.block g hg).trans h
theorem Blk.grown {row : Option Nat} (h : Blk w g t cs) (hb : w.grownBy w' row) (hg : some g ≠ row) : Blk w' g t cs := (hb.block g h.lt hg).trans h
end

theorem blk_cells {w : World} {g : Nat} {t : TypeId} {x y : Value} (h : Blk w g t #[x, y]) : w.cell? ⟨g, 0, none⟩ = some x ∧ w.cell? ⟨g, 1, none⟩ = some y ∧ w.frozen? ⟨g, 0, none⟩ = false ∧ w.frozen? ⟨g, 1, none⟩ = false :=
  ⟨(h.cell 0).trans rfl, (h.cell 1).trans rfl, h.frozen 0, h.frozen 1⟩

/-- Two worlds that are alike at the blocks of F. -/
def AlikeAt (F : Nat → Prop) (w w' : World) : Prop := ∀ k, F k → k < w.heap.size → w'.heap[k]? = w.heap[k]?

theorem AlikeAt.cell {F : Nat → Prop} {w w' : World} (h : AlikeAt F w w') {b j : Nat} {x : Value} (hb : F b) (e : w.cell? ⟨b, j, none⟩ = some x) : w'.cell? ⟨b, j, none⟩ = some x := by
  have := h b hb (World.block_lt_of_cell? w _ e)
  rw [World.cell?_of_block (a := ⟨b, j, none⟩) this]; exact e

theorem AlikeAt.cells {F : Nat → Prop} {w w' : World} (h : AlikeAt F w w') {b : Nat} {xs : List Value} (hb : F b) (e : Cells w b xs) : Cells w' b xs := fun j u hu => h.cell hb (e j u hu)

mutual
/-- RepS, whose blocks are all among F. -/
def RepSF (F : Nat → Prop) (w : World) : Tree → Value → Prop
  | .atom s, v => v = .agg #[st s, .slice none 0 0]
  | .list l, v => ∃ b c xs, v = .agg #[st [], .slice (some ⟨b, 0, none⟩) l.length c] ∧ l.length ≤ c ∧ c ≤ maxLen ∧ Cells w b xs ∧ RepFF F w l xs ∧ F b ∧ l ≠ []
/-- RepF, whose blocks are all among F. -/
def RepFF (F : Nat → Prop) (w : World) : List Tree → List Value → Prop
  | [], xs => xs = []
  | t :: l, xs => ∃ x y r, xs = x :: y :: r ∧ RepSF F w t (.agg #[x, y]) ∧ RepFF F w l r
end

mutual
theorem RepSF.rep {F : Nat → Prop} {w : World} : ∀ (t : Tree) (v : Value), RepSF F w t v → RepS w t v
  | .atom s, v, e => by rw [RepSF] at e; rw [RepS]; exact e
  | .list l, v, e => by
    rw [RepSF] at e; rw [RepS]
    obtain ⟨b, c, xs, hv, h1, h2, h3, hl, _⟩ := e
    exact ⟨b, c, xs, hv, h1, h2, h3, RepFF.rep l xs hl⟩
theorem RepFF.rep {F : Nat → Prop} {w : World} : ∀ (l : List Tree) (xs : List Value), RepFF F w l xs → RepF w l xs
  | [], xs, e => by rw [RepFF] at e; rw [RepF]; exact e
  | t :: l, xs, e => by
    rw [RepFF] at e; rw [RepF]
    obtain ⟨x, y, r, h1, h3, h4⟩ := e
    exact ⟨x, y, r, h1, RepSF.rep t _ h3, RepFF.rep l r h4⟩
end

mutual
theorem RepSF.move {F G : Nat → Prop} {w w' : World} (h : AlikeAt F w w') (hG : ∀ k, F k → k < w.heap.size → G k) : ∀ (t : Tree) (v : Value), RepSF F w t v → RepSF G w' t v
  | .atom s, v, e => by rw [RepSF] at e ⊢; exact e
  | .list l, v, e => by
    rw [RepSF] at e ⊢
    obtain ⟨b, c, xs, hv, h1, h2, h3, hl, hb, hne⟩ := e
    refine ⟨b, c, xs, hv, h1, h2, h.cells hb h3, RepFF.move h hG l xs hl, hG b hb ?_, hne⟩
    cases l with
    | nil => exact absurd rfl hne
    | cons t l =>
      rw [RepFF] at hl
      obtain ⟨x, y, r, rfl, _, _⟩ := hl
      exact World.block_lt_of_cell? w _ (h3 0 x rfl)
theorem RepFF.move {F G : Nat → Prop} {w w' : World} (h : AlikeAt F w w') (hG : ∀ k, F k → k < w.heap.size → G k) : ∀ (l : List Tree) (xs : List Value), RepFF F w l xs → RepFF G w' l xs
  | [], xs, e => by rw [RepFF] at e ⊢; exact e
  | t :: l, xs, e => by
    rw [RepFF] at e ⊢
    obtain ⟨x, y, r, h1, h3, h4⟩ := e
    exact ⟨x, y, r, h1, RepSF.move h hG t _ h3, RepFF.move h hG l r h4⟩
end

theorem RepFF.append {F : Nat → Prop} {w : World} : ∀ (l m : List Tree) (xs ys : List Value), RepFF F w l xs → RepFF F w m ys → RepFF F w (l ++ m) (xs ++ ys)
  | [], m, xs, ys, e, f => by rw [RepFF] at e; subst e; exact f
  | t :: l, m, xs, ys, e, f => by
    rw [RepFF] at e
    obtain ⟨x, y, r, rfl, h3, h4⟩ := e
    rw [List.cons_append, RepFF]
    exact ⟨x, y, r ++ ys, rfl, h3, RepFF.append l m r ys h4 f⟩

theorem RepFF.one {F : Nat → Prop} {w : World} {t : Tree} {x y : Value} (h : RepSF F w t (.agg #[x, y])) : RepFF F w [t] [x, y] := by
  rw [RepFF]
  exact ⟨x, y, [], rfl, h, by rw [RepFF]⟩

mutual
/-- RepX, whose blocks are all among F. -/
def RepXF (F : Nat → Prop) (w : World) : Tree → Value → Prop
  | .atom s, v => ∃ b, v = .pointer (some ⟨b, 0, none⟩) ∧ w.cell? ⟨b, 0, none⟩ = some (st s) ∧ w.cell? ⟨b, 1, none⟩ = some (.slice none 0 0) ∧ F b
  | .list l, v => ∃ b g c xs, v = .pointer (some ⟨b, 0, none⟩) ∧ w.cell? ⟨b, 0, none⟩ = some (st []) ∧ w.cell? ⟨b, 1, none⟩ = some (.slice (some ⟨g, 0, none⟩) l.length c) ∧
      l.length ≤ c ∧ c ≤ maxLen ∧ Cells w g xs ∧ RepXsF F w l xs ∧ F b ∧ F g ∧ l ≠ []
/-- Pointers to trees. -/
def RepXsF (F : Nat → Prop) (w : World) : List Tree → List Value → Prop
  | [], xs => xs = []
  | t :: l, xs => ∃ x r, xs = x :: r ∧ RepXF F w t x ∧ RepXsF F w l r
end

mutual
theorem RepXF.rep {F : Nat → Prop} {w : World} : ∀ (t : Tree) (v : Value), RepXF F w t v → RepX w t v
  | .atom s, v, e => by
    rw [RepXF] at e; rw [RepX]
    obtain ⟨b, hv, h1, h2, _⟩ := e
    exact ⟨b, hv, h1, h2⟩
  | .list l, v, e => by
    rw [RepXF] at e; rw [RepX]
    obtain ⟨b, g, c, xs, hv, h1, h2, h3, h4, h5, h6, _⟩ := e
    exact ⟨b, g, c, xs, hv, h1, h2, h3, h4, h5, RepXsF.rep l xs h6⟩
theorem RepXsF.rep {F : Nat → Prop} {w : World} : ∀ (l : List Tree) (xs : List Value), RepXsF F w l xs → RepXs w l xs
  | [], xs, e => by rw [RepXsF] at e; rw [RepXs]; exact e
  | t :: l, xs, e => by
    rw [RepXsF] at e; rw [RepXs]
    obtain ⟨x, r, h1, h3, h4⟩ := e
    exact ⟨x, r, h1, RepXF.rep t _ h3, RepXsF.rep l r h4⟩
end

mutual
theorem RepXF.move {F G : Nat → Prop} {w w' : World} (h : AlikeAt F w w') (hG : ∀ k, F k → k < w.heap.size → G k) : ∀ (t : Tree) (v : Value), RepXF F w t v → RepXF G w' t v
  | .atom s, v, e => by
    rw [RepXF] at e ⊢
    obtain ⟨b, hv, h1, h2, hb⟩ := e
    exact ⟨b, hv, h.cell hb h1, h.cell hb h2, hG b hb (World.block_lt_of_cell? w _ h1)⟩
  | .list l, v, e => by
    rw [RepXF] at e ⊢
    obtain ⟨b, g, c, xs, hv, h1, h2, h3, h4, h5, h6, hb, hg, hne⟩ := e
    refine ⟨b, g, c, xs, hv, h.cell hb h1, h.cell hb h2, h3, h4, h.cells hg h5, RepXsF.move h hG l xs h6, hG b hb (World.block_lt_of_cell? w _ h1), hG g hg ?_, hne⟩
    cases l with
    | nil => exact absurd rfl hne
    | cons t l =>
      rw [RepXsF] at h6
      obtain ⟨x, r, rfl, _, _⟩ := h6
      exact World.block_lt_of_cell? w _ (h5 0 x rfl)
theorem RepXsF.move {F G : Nat → Prop} {w w' : World} (h : AlikeAt F w w') (hG : ∀ k, F k → k < w.heap.size → G k) : ∀ (l : List Tree) (xs : List Value), RepXsF F w l xs → RepXsF G w' l xs
  | [], xs, e => by rw [RepXsF] at e ⊢; exact e
  | t :: l, xs, e => by
    rw [RepXsF] at e ⊢
    obtain ⟨x, r, h1, h3, h4⟩ := e
    exact ⟨x, r, h1, RepXF.move h hG t _ h3, RepXsF.move h hG l r h4⟩
end

theorem RepXsF.append {F : Nat → Prop} {w : World} : ∀ (l m : List Tree) (xs ys : List Value), RepXsF F w l xs → RepXsF F w m ys → RepXsF F w (l ++ m) (xs ++ ys)
  | [], m, xs, ys, e, f => by rw [RepXsF] at e; subst e; exact f
  | t :: l, m, xs, ys, e, f => by
    rw [RepXsF] at e
    obtain ⟨x, r, rfl, h3, h4⟩ := e
    rw [List.cons_append, RepXsF]
    exact ⟨x, r ++ ys, rfl, h3, RepXsF.append l m r ys h4 f⟩

theorem RepXsF.one {F : Nat → Prop} {w : World} {t : Tree} {x : Value} (h : RepXF F w t x) : RepXsF F w [t] [x] := by
  rw [RepXsF]
  exact ⟨x, [], rfl, h, by rw [RepXsF]⟩

end Rt

/-! Terms in the memory of the program, with the blocks that they lie in. -/
namespace Rt
open Go Go.RowKit

/-- A slice value that holds the cells xs, n elements, in a block among F. -/
def RowF (F : Nat → Prop) (w : World) (v : Value) (n : Nat) (xs : List Value) : Prop :=
  ∃ A c, v = .slice A n c ∧ n ≤ c ∧ c ≤ maxLen ∧ (0 < n → ∃ g, A = some ⟨g, 0, none⟩ ∧ Cells w g xs ∧ F g)

/-- A block that can be written. -/
def Live (w : World) (b : Nat) : Prop := ∃ cs t, w.heap[b]? = some (.cells cs t (0, 0))

/-- The seven cells of a block. -/
def Six (w : World) (b : Nat) (k : Nat) (s : B) (z i o : Nat) (p l : Value) : Prop :=
  w.cell? ⟨b, 0, none⟩ = some (.int .i64 k) ∧ w.cell? ⟨b, 1, none⟩ = some (st s) ∧ w.cell? ⟨b, 2, none⟩ = some (.int .i64 z) ∧ w.cell? ⟨b, 3, none⟩ = some (.int .i64 i) ∧
    w.cell? ⟨b, 5, none⟩ = some p ∧ w.cell? ⟨b, 6, none⟩ = some l ∧ Live w b ∧ w.cell? ⟨b, 4, none⟩ = some (.int .i64 o)

theorem Six.alike {F : Nat → Prop} {w w' : World} (h : AlikeAt F w w') {b k : Nat} {s : B} {z i o : Nat} {p l : Value} (hb : F b) (e : Six w b k s z i o p l) : Six w' b k s z i o p l := by
  obtain ⟨h1, h2, h3, h4, h5, h6, ⟨cs, t, h7⟩, h8⟩ := e
  exact ⟨h.cell hb h1, h.cell hb h2, h.cell hb h3, h.cell hb h4, h.cell hb h5, h.cell hb h6, ⟨cs, t, (h b hb (World.block_lt_of_cell? w _ h1)).trans h7⟩, h.cell hb h8⟩

mutual
/-- RepP, whose blocks are all among F. -/
def RepPF (F : Nat → Prop) (w : World) : Term → Value → Prop
  | .nm s, v => ∃ b, v = .pointer (some ⟨b, 0, none⟩) ∧ Six w b 0 s 1 0 0 (.pointer none) (.slice none 0 0) ∧ F b
  | .ix n, v => ∃ b, v = .pointer (some ⟨b, 0, none⟩) ∧ Six w b 1 (dec n) 1 n (n + 1) (.pointer none) (.slice none 0 0) ∧ F b
  | .lam t, v => ∃ b p, v = .pointer (some ⟨b, 0, none⟩) ∧ Six w b 2 (text (.lam t)) (size (.lam t)) 0 (outer (.lam t)) p (.slice none 0 0) ∧ RepPF F w t p ∧ F b
  | .app t l, v => ∃ b p q xs, v = .pointer (some ⟨b, 0, none⟩) ∧ Six w b 3 (text (.app t l)) (size (.app t l)) 0 (outer (.app t l)) p q ∧ RepPF F w t p ∧ RowF F w q l.length xs ∧ RepPsF F w l xs ∧ F b
/-- Pointers to terms. -/
def RepPsF (F : Nat → Prop) (w : World) : List Term → List Value → Prop
  | [], xs => xs = []
  | t :: l, xs => ∃ x r, xs = x :: r ∧ RepPF F w t x ∧ RepPsF F w l r
end

mutual
theorem RepPF.move {F G : Nat → Prop} {w w' : World} (h : AlikeAt F w w') (hG : ∀ k, F k → k < w.heap.size → G k) : ∀ (t : Term) (v : Value), RepPF F w t v → RepPF G w' t v
  | .nm s, v, e => by
    rw [RepPF] at e ⊢
    obtain ⟨b, hv, h1, hb⟩ := e
    exact ⟨b, hv, h1.alike h hb, hG b hb (World.block_lt_of_cell? w _ h1.1)⟩
  | .ix n, v, e => by
    rw [RepPF] at e ⊢
    obtain ⟨b, hv, h1, hb⟩ := e
    exact ⟨b, hv, h1.alike h hb, hG b hb (World.block_lt_of_cell? w _ h1.1)⟩
  | .lam t, v, e => by
    rw [RepPF] at e ⊢
    obtain ⟨b, p, hv, h1, h2, hb⟩ := e
    exact ⟨b, p, hv, h1.alike h hb, RepPF.move h hG t p h2, hG b hb (World.block_lt_of_cell? w _ h1.1)⟩
  | .app t l, v, e => by
    rw [RepPF] at e ⊢
    obtain ⟨b, p, q, xs, hv, h1, h2, h3, h4, hb⟩ := e
    refine ⟨b, p, q, xs, hv, h1.alike h hb, RepPF.move h hG t p h2, ?_, RepPsF.move h hG l xs h4, hG b hb (World.block_lt_of_cell? w _ h1.1)⟩
    obtain ⟨A, c, e1, e2, e3, e4⟩ := h3
    refine ⟨A, c, e1, e2, e3, fun hn => ?_⟩
    obtain ⟨g, e5, e6, e7⟩ := e4 hn
    refine ⟨g, e5, h.cells e7 e6, hG g e7 ?_⟩
    cases l with
    | nil => simp at hn
    | cons t l =>
      rw [RepPsF] at h4
      obtain ⟨x, r, rfl, _, _⟩ := h4
      exact World.block_lt_of_cell? w _ (e6 0 x rfl)
theorem RepPsF.move {F G : Nat → Prop} {w w' : World} (h : AlikeAt F w w') (hG : ∀ k, F k → k < w.heap.size → G k) : ∀ (l : List Term) (xs : List Value), RepPsF F w l xs → RepPsF G w' l xs
  | [], xs, e => by rw [RepPsF] at e ⊢; exact e
  | t :: l, xs, e => by
    rw [RepPsF] at e ⊢
    obtain ⟨x, r, h1, h3, h4⟩ := e
    exact ⟨x, r, h1, RepPF.move h hG t _ h3, RepPsF.move h hG l r h4⟩
end

theorem RepPsF.append {F : Nat → Prop} {w : World} : ∀ (l m : List Term) (xs ys : List Value), RepPsF F w l xs → RepPsF F w m ys → RepPsF F w (l ++ m) (xs ++ ys)
  | [], m, xs, ys, e, f => by rw [RepPsF] at e; subst e; exact f
  | t :: l, m, xs, ys, e, f => by
    rw [RepPsF] at e
    obtain ⟨x, r, rfl, h3, h4⟩ := e
    rw [List.cons_append, RepPsF]
    exact ⟨x, r ++ ys, rfl, h3, RepPsF.append l m r ys h4 f⟩

theorem RepPsF.one {F : Nat → Prop} {w : World} {t : Term} {x : Value} (h : RepPF F w t x) : RepPsF F w [t] [x] := by
  rw [RepPsF]
  exact ⟨x, [], rfl, h, by rw [RepPsF]⟩

theorem RepPsF.length {F : Nat → Prop} {w : World} : ∀ (l : List Term) (xs : List Value), RepPsF F w l xs → xs.length = l.length
  | [], xs, e => by rw [RepPsF] at e; subst e; rfl
  | t :: l, xs, e => by
    rw [RepPsF] at e
    obtain ⟨x, r, rfl, _, h4⟩ := e
    simp [RepPsF.length l r h4]

theorem RepPsF.at {F : Nat → Prop} {w : World} : ∀ (l : List Term) (xs : List Value) (i : Nat) (t : Term), RepPsF F w l xs → l[i]? = some t → ∃ x, xs[i]? = some x ∧ RepPF F w t x
  | [], xs, i, t, e, h => by simp at h
  | u :: l, xs, 0, t, e, h => by
    rw [RepPsF] at e
    obtain ⟨x, r, rfl, h3, h4⟩ := e
    simp at h; subst h
    exact ⟨x, by simp, h3⟩
  | u :: l, xs, i + 1, t, e, h => by
    rw [RepPsF] at e
    obtain ⟨x, r, rfl, h3, h4⟩ := e
    obtain ⟨x', a, c⟩ := RepPsF.at l r i t h4 (by simpa using h)
    exact ⟨x', by simpa using a, c⟩

/-- What every term's struct tells. -/
theorem RepPF.head {F : Nat → Prop} {w : World} (t : Term) (v : Value) (h : RepPF F w t v) : ∃ b i p l, v = .pointer (some ⟨b, 0, none⟩) ∧ Six w b (kindOf t) (text t) (size t) i (outer t) p l ∧ F b := by
  cases t with
  | nm s => rw [RepPF] at h; obtain ⟨b, hv, h1, hb⟩ := h; exact ⟨b, _, _, _, hv, h1, hb⟩
  | ix n => rw [RepPF] at h; obtain ⟨b, hv, h1, hb⟩ := h; exact ⟨b, _, _, _, hv, h1, hb⟩
  | lam t => rw [RepPF] at h; obtain ⟨b, p, hv, h1, _, hb⟩ := h; exact ⟨b, _, _, _, hv, h1, hb⟩
  | app t l => rw [RepPF] at h; obtain ⟨b, p, q, xs, hv, h1, _, _, _, hb⟩ := h; exact ⟨b, _, _, _, hv, h1, hb⟩

end Rt
