/- The walk of the program's swap. -/
import Derived.Test.YtopmkddmllmecaaGreatDoorImpW
import Derived.Test.YtopmkddmllmecaaGreatDoorPureD
namespace Go.Proofs.YtopmkddmllmecaaGreatDoor
open Go.RowKit Rt Go.Lib
open Go.ChangeMaps Go.MapKept Go.Maps Go.WideMaps

/-- What is made in a pool: at most c entries more. -/
def SwapPost (F : Nat → Prop) (w : World) (p m n c : Nat) (t : Term) (e : Ending) (w' : World) : Prop :=
  w.grownBy w' (some m) ∧ ∃ v D n', e = .returned v ∧ n' ≤ n + c ∧ RepPF (fun k => F k ∨ w.heap.size ≤ k) w' t v ∧ Pool (fun k => F k ∨ w.heap.size ≤ k) w' p m n' D

theorem SwapPost.of {F : Nat → Prop} {w w' : World} {p m n n' c : Nat} {t : Term} {e : Ending} (hn : n' ≤ n + c) (h : PoolPost F w p m n' t e w') : SwapPost F w p m n c t e w' := by
  obtain ⟨hg, v, D, he, h1, h2⟩ := h
  exact ⟨hg, v, D, n', he, hn, h1, h2⟩

/-- Where a leaf stays as it is. -/
theorem SwapPost.same {F : Nat → Prop} {w w' : World} {p m n c : Nat} {t : Term} {v : Value} {D : DataW Value} (hb : Below w.heap.size w w') (hv : RepPF F w t v) (hP : Pool F w p m n D) : SwapPost F w p m n c t (.returned v) w' := by
  refine ⟨⟨hb.os, hb.tape, hb.output, hb.size, fun k hk _ => hb.block k hk⟩, v, D, n, rfl, by omega, RepPF.move (fun k _ hk => hb.block k hk) (fun k hk _ => .inl hk) _ _ hv, ?_⟩
  refine hP.go (hb.block p hP.plt) (hb.block m hP.map.lt) (fun k _ hk => hb.block k hk) (fun k hk _ => .inl hk) ?_
  rintro (h | h)
  · exact hP.far h
  · have := hP.map.lt; omega

theorem SwapPost.shape {F : Nat → Prop} {w w' : World} {p m n c : Nat} {t : Term} {e : Ending} (h : SwapPost F w p m n c t e w') : ∃ b, e = .returned (.pointer (some ⟨b, 0, none⟩)) := by
  obtain ⟨_, v, D, n', rfl, _, h1, _⟩ := h
  obtain ⟨b, _, _, _, rfl, _⟩ := RepPF.head _ _ h1
  exact ⟨b, rfl⟩

/-- One pointer is one term. -/
theorem RepPF.same {F G : Nat → Prop} {w : World} {i j : Nat} {t u : Term} {v : Value} (h : RepPF F w t v) (h' : RepPF G w u v) (ht : ok i t = true) (hu : ok j u = true) : t = u := by
  obtain ⟨b, _, _, _, rfl, h6, -⟩ := RepPF.head t v h
  obtain ⟨b', _, _, _, e, h6', -⟩ := RepPF.head u _ h'
  injection e with e; injection e with e; injection e with e
  subst e
  have e1 := h6.2.1.symm.trans h6'.2.1
  injection e1 with e1
  unfold st at e1
  injection e1 with e1
  injection e1 with e1
  have e2 : text t = text u := by simpa using congrArg Array.toList e1
  exact text_inj i j t u ht hu e2

theorem RepPsF.same {F G : Nat → Prop} {w : World} {i j : Nat} : ∀ (l m : List Term) (xs : List Value), RepPsF F w l xs → RepPsF G w m xs → oks i l = true → oks j m = true → l = m
  | [], [], _, _, _, _, _ => rfl
  | [], u :: m, xs, h, h', _, _ => by
    rw [RepPsF] at h; rw [RepPsF] at h'
    obtain ⟨x, r, e, _, _⟩ := h'
    rw [h] at e; cases e
  | t :: l, [], xs, h, h', _, _ => by
    rw [RepPsF] at h; rw [RepPsF] at h'
    obtain ⟨x, r, e, _, _⟩ := h
    rw [h'] at e; cases e
  | t :: l, u :: m, xs, h, h', o, o' => by
    rw [RepPsF] at h; rw [RepPsF] at h'
    obtain ⟨x, r, rfl, h1, h2⟩ := h
    obtain ⟨x', r', e, h1', h2'⟩ := h'
    injection e with e1 e2
    subst e1; subst e2
    rw [oks, Bool.and_eq_true] at o o'
    rw [RepPF.same h1 h1' o.1 o'.1, RepPsF.same l m r h2 h2' o.2 o'.2]

theorem lam_sorted {t : Term} (h : sort (.lam t) = .lam t) : sort t = t := by
  rw [sort] at h
  injection h

theorem app_sorted {j : Nat} {t : Term} {l : List Term} (ho : ok j (.app t l) = true) (h : sort (.app t l) = .app t l) : sort t = t ∧ (∀ u ∈ l, sort u = u) ∧ sorts l = l ∧ sortBag l = l := by
  rw [ok, Bool.and_eq_true] at ho
  rw [sort] at h
  injection h with h1 h2
  have h3 : ∀ u ∈ l, sort u = u := by
    intro u hu
    rw [← h2] at hu
    exact sorts_sorted j l ho.2 u ((sortBag_perm _).mem_iff.1 hu)
  have h4 : ∀ m : List Term, (∀ u ∈ m, sort u = u) → sorts m = m := by
    intro m
    induction m with
    | nil => intro _; rfl
    | cons u m ih => intro hh; rw [sorts, hh u (by simp), ih (fun x hx => hh x (by simp [hx]))]
  have h5 := h4 l h3
  exact ⟨h1, h3, h5, by rw [h5] at h2; exact h2⟩

/-- Where all stays. -/
theorem SwapPost.stay {F : Nat → Prop} {w w1 : World} {p m n n1 c : Nat} {t : Term} {v : Value} {D1 : DataW Value} (hg : w.grownBy w1 (some m)) (hm : ¬ F m) (hn : n1 ≤ n + c) (hv : RepPF F w t v) (hP : Pool (fun k => F k ∨ w.heap.size ≤ k) w1 p m n1 D1) : SwapPost F w p m n c t (.returned v) w1 :=
  ⟨hg, v, D1, n1, rfl, hn, RepPF.move (fun k hk hk2 => hg.block k hk2 (by intro e; injection e with e; exact hm (e ▸ hk))) (fun k hk _ => .inl hk) _ _ hv, hP⟩

/-- What a leaf's function does, at the atoms. -/
structure SwapIn (fv : Value) (L : Nat → Term → Term) (a p m : Nat) (Keep : World → Prop) : Prop where
  keep : ∀ w w', Keep w → w.grownBy w' (some m) → Keep w'
  nm : ∀ (F : Nat → Prop) (s : B) (k n : Nat) (v : Value) (D : DataW Value) (w : World), Keep w → k < 100 → isName s = true → n < 1000000 → RepPF F w (.nm s) v → Pool F w p m n D →
    Calls Tryz.prog 86 #[.pointer (some ⟨p, 0, none⟩), v, .int .i64 k, fv] w (SwapPost F w p m n 1 (L k (.nm s)))
  ix : ∀ (F : Nat → Prop) (i k n : Nat) (v : Value) (D : DataW Value) (w : World), Keep w → k < 100 → i < k + a → i < 100 → n < 1000000 → RepPF F w (.ix i) v → Pool F w p m n D →
    Calls Tryz.prog 86 #[.pointer (some ⟨p, 0, none⟩), v, .int .i64 k, fv] w (SwapPost F w p m n 1 (L k (.ix i)))

theorem sort_one (t : Term) (h : size t = 1) : sort t = t := by
  cases t with
  | nm s => rfl
  | ix n => rfl
  | lam t => have := size_pos t; rw [Rt.size] at h; omega
  | app t b => have := size_pos t; rw [Rt.size] at h; omega

/-- What holds at the head of swap's loop. -/
structure SwapRel (F : Nat → Prop) (w wr : World) (p m n : Nat) (L : Nat → Term → Term) (K : Nat) (l : List Term) (j : Nat) (sv : Value) (xs : List Value) (D : DataW Value) (n' : Nat) : Prop where
  le : j ≤ l.length
  own : wr.ownsRow w.heap.size 74 1 sv j xs
  rep : RepPsF (Foot F w sv) wr (sorts (swps L K (l.take j))) xs
  pool : Pool (Foot F w sv) wr p m n' D
  cnt : n' ≤ n + sizes (l.take j)
  grown : w.grownBy wr (some m)

/-- One term more. -/
theorem SwapRel.next {F : Nat → Prop} {w wr w1 w3 : World} {p m n K : Nat} {L : Nat → Term → Term} {l : List Term} {j : Nat} {g' c' g3 c3 n' n1 : Nat} {xs : List Value} {D' D1 : DataW Value} {t : Term} {u : Value}
    (h : SwapRel F w wr p m n L K l j (.slice (some ⟨g', 0, none⟩) j c') xs D' n') (hw : p + 1 ≤ w.heap.size) (hm : m + 1 ≤ w.heap.size) (hFm : ¬ F m) (hx : l[j]? = some t) (hlt : j < l.length)
    (hg1 : wr.grownBy w1 (some m)) (hn1 : n1 ≤ n' + size t) (hu : RepPF (fun k => Foot F w (.slice (some ⟨g', 0, none⟩) j c') k ∨ wr.heap.size ≤ k) w1 (sort (swp L K t)) u) (hp : Pool (fun k => Foot F w (.slice (some ⟨g', 0, none⟩) j c') k ∨ wr.heap.size ≤ k) w1 p m n1 D1)
    (hown3 : w3.ownsRow w.heap.size 74 1 (.slice (some ⟨g3, 0, none⟩) (j + 1) c3) (j + 1) (xs ++ [u])) (hgrow3 : (w1.alloc (.cells #[u] 74)).grownBy w3 (some g')) (hat : g3 = g' ∨ w1.heap.size + 1 ≤ g3) :
    SwapRel F w w3 p m n L K l (j + 1) (.slice (some ⟨g3, 0, none⟩) (j + 1) c3) (xs ++ [u]) D1 n1 := by
  obtain ⟨hgb, hgl⟩ := own_block_lt h.own g' rfl
  have hs0 := h.grown.size
  have hs1 := hg1.size
  have hs3 : w1.heap.size + 1 ≤ w3.heap.size := by have := hgrow3.size; simpa using this
  have h31 : ∀ k, k < w1.heap.size → k ≠ g' → w3.heap[k]? = w1.heap[k]? := by
    intro k hk hne
    rw [hgrow3.block k (by simp; omega) (by intro e; injection e with e; exact hne e), Below.heap_alloc _ _ _ hk]
  have h1r : ∀ k, k < wr.heap.size → k ≠ m → w1.heap[k]? = wr.heap[k]? := fun k hk hne => hg1.block k hk (by intro e; injection e with e; exact hne e)
  have hfoot : ∀ k, Foot F w (.slice (some ⟨g', 0, none⟩) j c') k → k ≠ g' ∧ (F k ∨ w.heap.size ≤ k) := by
    rintro k ⟨h1, h2⟩
    exact ⟨fun e => h2 (by simp [Value.ownBlock, e]), h1⟩
  have hmk : ∀ k, (F k ∨ w.heap.size ≤ k) → k < w1.heap.size → k ≠ g' → Foot F w (.slice (some ⟨g3, 0, none⟩) (j + 1) c3) k := by
    intro k h1 h2 h3
    refine ⟨h1, ?_⟩
    simp [Value.ownBlock]
    rcases hat with e | e <;> omega
  have hne : ∀ k, (F k ∨ w.heap.size ≤ k) → k ≠ m := by
    rintro k (h1 | h1) e
    · exact hFm (e ▸ h1)
    · omega
  refine ⟨hlt, hown3, ?_, ?_, ?_, ?_⟩
  · rw [swps_snoc L K l j t hx, sorts_snoc]
    refine RepPsF.append _ _ _ _ ?_ ?_
    · refine RepPsF.move ?_ ?_ _ _ h.rep
      · intro k hk hk2
        obtain ⟨a1, a2⟩ := hfoot k hk
        rw [h31 k (by omega) a1, h1r k hk2 (hne k a2)]
      · intro k hk hk2
        obtain ⟨a1, a2⟩ := hfoot k hk
        exact hmk k a2 (by omega) a1
    · rw [RepPsF]
      refine ⟨u, [], rfl, RepPF.move ?_ ?_ _ _ hu, by rw [RepPsF]⟩
      · rintro k (hk | hk) hk2
        · exact h31 k hk2 (hfoot k hk).1
        · exact h31 k hk2 (by omega)
      · rintro k (hk | hk) hk2
        · exact hmk k (hfoot k hk).2 hk2 (hfoot k hk).1
        · exact hmk k (.inr (by omega)) hk2 (by omega)
  · refine hp.go (h31 p (by omega) (by omega)) (h31 m (by omega) (by omega)) ?_ ?_ ?_
    · rintro k (hk | hk) hk2
      · exact h31 k hk2 (hfoot k hk).1
      · exact h31 k hk2 (by omega)
    · rintro k (hk | hk) hk2
      · exact hmk k (hfoot k hk).2 hk2 (hfoot k hk).1
      · exact hmk k (.inr (by omega)) hk2 (by omega)
    · rintro ⟨h1 | h1, _⟩
      · exact hFm h1
      · omega
  · rw [sizes_take l j t hx]
    have := h.cnt
    omega
  · have hG := h.grown.trans hg1
    refine ⟨hgrow3.os.trans hG.os, hgrow3.tape.trans hG.tape, hgrow3.output.trans hG.output, by omega, ?_⟩
    intro k hk hne'
    rw [h31 k (by omega) (by omega)]
    exact hG.block k hk hne'

/-- app, of parts that are made. -/
theorem app_step2 (F : Nat → Prop) (t : Term) (b : List Term) (k p m n2 g c : Nat) (D2 : DataW Value) (u : Value) (xs : List Value) (w w2 : World) (hok : ok k (.app t b) = true) (hlen : (text (.app t b)).length ≤ 4000) (hsz : size (.app t b) ≤ 900000) (hn : n2 < 1000000)
    (hFm : ¬ F m) (hm : m + 1 ≤ w.heap.size) (hg : w.grownBy w2 (some m)) (hu : RepPF (fun k => F k ∨ w.heap.size ≤ k) w2 (sort t) u) (hc : Cells w2 g xs)
    (hx : RepPsF (fun k => F k ∨ w.heap.size ≤ k) w2 (sorts b) xs) (hP : Pool (fun k => F k ∨ w.heap.size ≤ k) w2 p m n2 D2) :
    Calls Tryz.prog 106 #[.pointer (some ⟨p, 0, none⟩), u, .slice (some ⟨g, 0, none⟩) (sorts b).length c] w2 (PoolPost F w p m (n2 + 1) (sort (.app t b))) :=
  app_step F t b k p m n2 g c D2 u xs w w2 w2 hok hlen hsz hn hFm hm hg ⟨rfl, rfl, rfl, Nat.le_refl _, fun _ _ _ => rfl⟩ hu hc
    (RepPsF.move (fun _ _ _ => rfl) (fun k hk _ => .inl hk) _ _ hx)
    (hP.go rfl rfl (fun _ _ _ => rfl) (fun k hk _ => .inl hk) (by
      rintro (h | h)
      · exact hP.far h
      · have := hP.map.lt; omega))

end Go.Proofs.YtopmkddmllmecaaGreatDoor
