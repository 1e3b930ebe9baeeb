/- The program's BagSort. -/
import Derived.Test.YtopmkddmllmecaaGreatDoorBsB
import Derived.Test.YtopmkddmllmecaaGreatDoorImpZ
import Derived.Test.YtopmkddmllmecaaGreatDoorSwE
namespace Go.Proofs.YtopmkddmllmecaaGreatDoor
open Go.RowKit Rt Go.Lib
open Go.ChangeMaps Go.MapKept Go.Maps Go.WideMaps

/-- The terms of a list of texts. -/
def termsOf : List ByteArray → Option (List Term)
  | [] => some []
  | s :: l => match termOf s.data.toList with
    | none => none
    | some t => (termsOf l).map (t :: ·)

/-- What BagSort tells. -/
def bagRes (ss : List ByteArray) : B × Bool := match termsOf ss with
  | some ts => if 2 + sizes ts ≤ 60 then (bagT (sortBag ts), true) else ([], false)
  | none => ([], false)

theorem termsOf_snoc : ∀ (ss : List ByteArray) (k : Nat) (s : ByteArray) (ts : List Term) (t : Term), ss[k]? = some s → termsOf (ss.take k) = some ts → termOf s.data.toList = some t → termsOf (ss.take (k + 1)) = some (ts ++ [t])
  | [], k, s, ts, t, h, _, _ => by simp at h
  | x :: ss, 0, s, ts, t, h, h2, h3 => by
    simp at h; subst h
    simp [termsOf] at h2; subst h2
    simp [termsOf, h3]
  | x :: ss, k + 1, s, ts, t, h, h2, h3 => by
    rw [List.take_succ_cons, termsOf] at h2 ⊢
    cases hx : termOf x.data.toList with
    | none => rw [hx] at h2; cases h2
    | some u =>
      rw [hx] at h2
      simp only [Option.map_eq_some_iff] at h2
      obtain ⟨ts', e1, rfl⟩ := h2
      simp only
      rw [termsOf_snoc ss k s ts' t (by simpa using h) e1 h3]
      rfl

theorem termsOf_none : ∀ (ss : List ByteArray) (k : Nat) (s : ByteArray), ss[k]? = some s → termOf s.data.toList = none → termsOf ss = none
  | [], k, s, h, _ => by simp at h
  | x :: ss, 0, s, h, h2 => by simp at h; subst h; rw [termsOf, h2]
  | x :: ss, k + 1, s, h, h2 => by
    rw [termsOf]
    cases termOf x.data.toList with
    | none => rfl
    | some u => simp only; rw [termsOf_none ss k s (by simpa using h) h2]; rfl

/-- Of a list of terms a part has no greater size. -/
theorem termsOf_part : ∀ (ss : List ByteArray) (k : Nat) (ts us : List Term), termsOf (ss.take k) = some ts → termsOf ss = some us → sizes ts ≤ sizes us
  | [], k, ts, us, h, _ => by simp [termsOf] at h; subst h; simp [sizes]
  | x :: ss, 0, ts, us, h, _ => by simp [termsOf] at h; subst h; simp [sizes]
  | x :: ss, k + 1, ts, us, h, h2 => by
    rw [List.take_succ_cons, termsOf] at h
    rw [termsOf] at h2
    cases hx : termOf x.data.toList with
    | none => rw [hx] at h; cases h
    | some u =>
      rw [hx] at h h2
      simp only [Option.map_eq_some_iff] at h h2
      obtain ⟨a, e1, rfl⟩ := h
      obtain ⟨b, e2, rfl⟩ := h2
      have := termsOf_part ss k a b e1 e2
      simp only [sizes]; omega

theorem termsOf_ok : ∀ (ss : List ByteArray) (ts : List Term), termsOf ss = some ts → ts.length = ss.length ∧ oks 0 ts = true ∧ ∀ u ∈ ts, size u ≤ 60
  | [], ts, h => by simp [termsOf] at h; subst h; simp [oks]
  | x :: ss, ts, h => by
    rw [termsOf] at h
    cases hx : termOf x.data.toList with
    | none => rw [hx] at h; cases h
    | some u =>
      rw [hx] at h
      simp only [Option.map_eq_some_iff] at h
      obtain ⟨a, e1, rfl⟩ := h
      obtain ⟨h1, h2, h3⟩ := termsOf_ok ss a e1
      obtain ⟨o1, o2⟩ := termOf_ok _ u hx
      refine ⟨by simp [h1], by rw [oks, o1, h2]; rfl, ?_⟩
      intro v hv
      rcases List.mem_cons.1 hv with rfl | hv
      · exact o2
      · exact h3 v hv

/-- What holds at the head of BagSort's loop. -/
structure BsRel (F : Nat → Prop) (w wr : World) (p m n : Nat) (ss : List ByteArray) (k : Nat) (ts : List Term) (sv : Value) (xs : List Value) (D : DataW Value) (n' : Nat) : Prop where
  le : k ≤ ss.length
  res : termsOf (ss.take k) = some ts
  small : 2 + sizes ts ≤ 60
  own : wr.ownsRow w.heap.size 74 1 sv k xs
  rep : RepPsF (Foot F w sv) wr ts xs
  pool : Pool (Foot F w sv) wr p m n' D
  cnt : n' ≤ n + 4000 * k
  grown : w.grownBy wr (some m)

set_option maxRecDepth 100000 in
/-- One term more. -/
theorem BsRel.next {F : Nat → Prop} {w wr w1 w3 : World} {p m n : Nat} {ss : List ByteArray} {ts : List Term} {sb : ByteArray} {j : Nat} {g' c' g3 c3 n' n1 : Nat} {xs : List Value} {D' D1 : DataW Value} {t : Term} {u : Value}
    (h : BsRel F w wr p m n ss j ts (.slice (some ⟨g', 0, none⟩) j c') xs D' n') (hw : p + 1 ≤ w.heap.size) (hm : m + 1 ≤ w.heap.size) (hFm : ¬ F m) (hx : ss[j]? = some sb) (ht : termOf sb.data.toList = some t) (hlt : j < ss.length) (hsm : 2 + sizes ts + size t ≤ 60)
    (hg1 : wr.grownBy w1 (some m)) (hn1 : n1 ≤ n' + 4000) (hu : RepPF (fun k => Foot F w (.slice (some ⟨g', 0, none⟩) j c') k ∨ wr.heap.size ≤ k) w1 t u) (hp : Pool (fun k => Foot F w (.slice (some ⟨g', 0, none⟩) j c') k ∨ wr.heap.size ≤ k) w1 p m n1 D1)
    (hown3 : w3.ownsRow w.heap.size 74 1 (.slice (some ⟨g3, 0, none⟩) (j + 1) c3) (j + 1) (xs ++ [u])) (hgrow3 : (w1.alloc (.cells #[u] 74)).grownBy w3 (some g')) (hat : g3 = g' ∨ w1.heap.size + 1 ≤ g3) :
    BsRel F w w3 p m n ss (j + 1) (ts ++ [t]) (.slice (some ⟨g3, 0, none⟩) (j + 1) c3) (xs ++ [u]) D1 n1 := by
  obtain ⟨hgb, hgl⟩ := own_block_lt h.own g' rfl
  have hs0 := h.grown.size
  have hs1 := hg1.size
  have hs3 : w1.heap.size + 1 ≤ w3.heap.size := by have := hgrow3.size; simpa using this
  have h31 : ∀ k, k < w1.heap.size → k ≠ g' → w3.heap[k]? = w1.heap[k]? := by
    intro k hk hne
    rw [hgrow3.block k (by simp; omega) (by intro e; injection e with e; exact hne e), Below.heap_alloc _ _ _ hk]
  have h1r : ∀ k, k < wr.heap.size → k ≠ m → w1.heap[k]? = wr.heap[k]? := fun k hk hne => hg1.block k hk (by intro e; injection e with e; exact hne e)
  have hfoot : ∀ k, Foot F w (.slice (some ⟨g', 0, none⟩) j c') k → k ≠ g' ∧ (F k ∨ w.heap.size ≤ k) := by
    rintro k ⟨h1, h2⟩
    exact ⟨fun e => h2 (by simp [Value.ownBlock, e]), h1⟩
  have hmk : ∀ k, (F k ∨ w.heap.size ≤ k) → k < w1.heap.size → k ≠ g' → Foot F w (.slice (some ⟨g3, 0, none⟩) (j + 1) c3) k := by
    intro k h1 h2 h3
    refine ⟨h1, ?_⟩
    simp [Value.ownBlock]
    rcases hat with e | e <;> omega
  have hne : ∀ k, (F k ∨ w.heap.size ≤ k) → k ≠ m := by
    rintro k (h1 | h1) e
    · exact hFm (e ▸ h1)
    · omega
  have hsz : sizes (ts ++ [t]) = sizes ts + size t := by rw [sizes_sum, sizes_sum]; simp
  refine ⟨hlt, termsOf_snoc ss j sb ts t hx h.res ht, by omega, hown3, ?_, ?_, ?_, ?_⟩
  · refine RepPsF.append _ _ _ _ ?_ ?_
    · refine RepPsF.move ?_ ?_ _ _ h.rep
      · intro k hk hk2
        obtain ⟨a1, a2⟩ := hfoot k hk
        rw [h31 k (by omega) a1, h1r k hk2 (hne k a2)]
      · intro k hk hk2
        obtain ⟨a1, a2⟩ := hfoot k hk
        exact hmk k a2 (by omega) a1
    · rw [RepPsF]
      refine ⟨u, [], rfl, RepPF.move ?_ ?_ _ _ hu, by rw [RepPsF]⟩
      · rintro k (hk | hk) hk2
        · exact h31 k hk2 (hfoot k hk).1
        · exact h31 k hk2 (by omega)
      · rintro k (hk | hk) hk2
        · exact hmk k (hfoot k hk).2 hk2 (hfoot k hk).1
        · exact hmk k (.inr (by omega)) hk2 (by omega)
  · refine hp.go (h31 p (by omega) (by omega)) (h31 m (by omega) (by omega)) ?_ ?_ ?_
    · rintro k (hk | hk) hk2
      · exact h31 k hk2 (hfoot k hk).1
      · exact h31 k hk2 (by omega)
    · rintro k (hk | hk) hk2
      · exact hmk k (hfoot k hk).2 hk2 (hfoot k hk).1
      · exact hmk k (.inr (by omega)) hk2 (by omega)
    · rintro ⟨h1 | h1, _⟩
      · exact hFm h1
      · omega
  · have := h.cnt
    omega
  · have hG := h.grown.trans hg1
    refine ⟨hgrow3.os.trans hG.os, hgrow3.tape.trans hG.tape, hgrow3.output.trans hG.output, by omega, ?_⟩
    intro k hk hne'
    rw [h31 k (by omega) (by omega)]
    exact hG.block k hk hne'


theorem bagT_len (ts : List Term) (h : oks 0 ts = true) : (bagT ts).length ≤ 12 * sizes ts + 3 := by
  have h1 := texts_size 0 ts h
  have h2 := Rt.text_app (.ix 0) ts
  have h3 : text (.app (.ix 0) ts) = [40, 97, 112, 112, 32] ++ text (.ix 0) ++ [32] ++ bagT ts ++ [41] := text_app (.ix 0) ts
  rw [h3] at h2
  simp only [List.length_append, List.length_cons, List.length_nil] at h2
  omega

end Go.Proofs.YtopmkddmllmecaaGreatDoor
