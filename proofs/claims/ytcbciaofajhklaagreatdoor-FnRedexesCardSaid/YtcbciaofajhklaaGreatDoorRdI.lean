/- The program's redexes: the parts of a term, where all parts stand, what the library's DeleteFunc leaves of them. -/
import Derived.Test.YtcbciaofajhklaaGreatDoorImpE
import Derived.Test.YtcbciaofajhklaaGreatDoorSpecK
import Derived.Test.YtcbciaofajhklaaGreatDoorRedA
import Derived.Deep.RegionLaw
import Derived.Lib.SliceRun
import Derived.Shelf.GgClosure.Gives
set_option linter.unusedSimpArgs false
set_option linter.unusedVariables false
/-! The program's redexes: the parts of a term, where all parts stand, those that are redexes. -/
namespace Go.Proofs.YtcbciaofajhklaaGreatDoor
open Go.RowKit Rt

theorem ptrT_info : (Tryz.prog.info? 42).map (fun i => (i.zero, i.size, i.bytes)) = some (some (.pointer none), 1, 8) := by kernel_rfl
theorem ptrS_info : (Tryz.prog.info? 59).map (fun i => (i.zero, i.size, i.bytes)) = some (some (.pointer none), 1, 8) := by kernel_rfl

set_option maxHeartbeats 800000 in
theorem isRedex_any (F : Nat → Prop) (t : Term) (v : Value) (w : World) (hv : RepPF F w t v) :
    Calls Tryz.prog 50 #[v] w fun e w' => e = .returned (.bool (isRed t)) ∧ w' = w := by
  have other : ∀ (b k : Nat), v = .pointer (some ⟨b, 0, none⟩) → w.cell? ⟨b, 0, none⟩ = some (.int .i64 k) → (k = 0 ∨ k = 1 ∨ k = 2) → isRed t = false → Calls Tryz.prog 50 #[v] w fun e w' => e = .returned (.bool (isRed t)) ∧ w' = w := by
    intro b k hb hc hk hi
    subst hb
    rw [hi]
    clear hv hi
    have hk3 : ((k : Int) == 3) = false := by simp; omega
    go_enter Tryz.func50, Tryz.ntmps50
    go_wp2_with fail
    go_ret
    exact ⟨rfl, rfl⟩
  cases t with
  | nm s =>
    have hv2 := hv
    rw [RepPF] at hv2
    obtain ⟨b, e, h6, hb⟩ := hv2
    exact other b 0 e h6.1 (by omega) rfl
  | ix n =>
    have hv2 := hv
    rw [RepPF] at hv2
    obtain ⟨b, e, h6, hb⟩ := hv2
    exact other b 1 e h6.1 (by omega) rfl
  | lam t =>
    have hv2 := hv
    rw [RepPF] at hv2
    obtain ⟨b, p, e, h6, _, hb⟩ := hv2
    exact other b 2 e h6.1 (by omega) rfl
  | app t l =>
    clear other
    rw [RepPF] at hv
    obtain ⟨b, p, q, xs, rfl, h6, h2, _, _, hb⟩ := hv
    obtain ⟨b2, i2, p2, l2, rfl, h62, _⟩ := RepPF.head t p h2
    have c0 : w.cell? ⟨b, 0, none⟩ = some (.int .i64 3) := h6.1
    have c5 := h6.2.2.2.2.1
    have d0 := h62.1
    have e : isRed (.app t l) = ((kindOf t : Int) == 2) := by cases t <;> rfl
    rw [e]
    clear h6 h62 h2 e
    generalize kindOf t = k at *
    go_enter Tryz.func50, Tryz.ntmps50
    go_wp2_with fail
    go_ret
    exact ⟨rfl, rfl⟩

/-- The parts of a term next below it. -/
def kidsOf : Term → List Term
  | .lam t => [t]
  | .app t l => t :: l
  | _ => []

theorem subs_kids (t : Term) : subs t = t :: subsL (kidsOf t) := by
  cases t <;> simp [subs, kidsOf, subsL]
theorem size_kids (t : Term) : size t = 1 + sizes (kidsOf t) := by
  cases t <;> simp [size, kidsOf, sizes]
  omega

/-- What kids gives. -/
def RdKids (F : Nat → Prop) (w : World) (t : Term) (e : Ending) (w' : World) : Prop :=
  Below w.heap.size w w' ∧ ∃ A c xs, e = .returned (.slice A (kidsOf t).length c) ∧ RepPsF F w' (kidsOf t) xs ∧ (0 < (kidsOf t).length → ∃ g, A = some ⟨g, 0, none⟩ ∧ w.heap.size ≤ g ∧ g < w'.heap.size ∧ Cells w' g xs)

theorem kids_none (F : Nat → Prop) (t : Term) (b : Nat) (w : World) (hk : kidsOf t = []) (hc : w.cell? ⟨b, 5, none⟩ = some (.pointer none)) :
    Calls Tryz.prog 108 #[.pointer (some ⟨b, 0, none⟩)] w (RdKids F w t) := by
  have HF : Hid (RdKids F w t (.returned (.slice none 0 0)) w) := ⟨Below.refl _ _, none, 0, [], by rw [hk]; rfl, by rw [hk, RepPsF], by rw [hk]; simp⟩
  clear hk
  go_enter Tryz.func108, Tryz.ntmps108
  go_wp2_with fail
  go_ret
  exact HF.out

theorem repPF_one {F : Nat → Prop} {w : World} {t : Term} {v : Value} (h : RepPF F w t v) : v.oneCell' = true := by
  obtain ⟨b, i, p, l, rfl, _⟩ := RepPF.head t v h
  rfl
theorem repPsF_one {F : Nat → Prop} {w : World} : ∀ (l : List Term) (xs : List Value), RepPsF F w l xs → ∀ u ∈ xs, u.oneCell' = true
  | [], xs, h, u, hu => by rw [RepPsF] at h; subst h; simp at hu
  | t :: l, xs, h, u, hu => by
    rw [RepPsF] at h
    obtain ⟨x, r, rfl, h3, h4⟩ := h
    rcases List.mem_cons.1 hu with rfl | hu
    · exact repPF_one h3
    · exact repPsF_one l r h4 u hu

set_option maxHeartbeats 1600000 in
set_option maxRecDepth 100000 in
theorem kids_some (F : Nat → Prop) (t u : Term) (l : List Term) (b b1 : Nat) (A : Option Addr) (n c : Nat) (xs : List Value) (w : World) (hk : kidsOf t = u :: l) (hn : n = l.length) (hl : n ≤ 100000) (hF : ∀ k, F k → k < w.heap.size)
    (h1 : w.cell? ⟨b, 5, none⟩ = some (.pointer (some ⟨b1, 0, none⟩))) (h2 : w.cell? ⟨b, 6, none⟩ = some (.slice A n c)) (hu : RepPF F w u (.pointer (some ⟨b1, 0, none⟩))) (hx : RepPsF F w l xs)
    (hr : 0 < n → ∃ g, A = some ⟨g, 0, none⟩ ∧ Cells w g xs ∧ g < w.heap.size) :
    Calls Tryz.prog 108 #[.pointer (some ⟨b, 0, none⟩)] w (RdKids F w t) := by
  obtain ⟨i0, hi0, hz0, hz1, hz2⟩ := info_parts ptrT_info
  have hxl := RepPsF.length l xs hx
  have HR : Hid (Reads w w.heap.size 1 A n xs) := by
    refine ⟨by omega, fun h => ?_⟩
    obtain ⟨g, rfl, hc, hg⟩ := hr h
    exact ⟨_, rfl, hg, fun j u hj => by rw [Addr.add_lit, Nat.zero_add]; exact hc j u hj⟩
  have HO := Lib.hid (repPsF_one l xs hx)
  have H1 : ∀ o, (w.alloc o).cell? ⟨b, 5, none⟩ = some (.pointer (some ⟨b1, 0, none⟩)) := fun o => cell_alloc (w := w) h1 o
  have H2 : ∀ o, (w.alloc o).cell? ⟨b, 6, none⟩ = some (.slice A n c) := fun o => cell_alloc (w := w) h2 o
  have HU := Lib.hid hu
  have HX := Lib.hid hx
  have HFF := Lib.hid hF
  have HK := Lib.hid hk
  have HN := Lib.hid hn
  clear hu hx hF hk hr hn
  go_enter Tryz.func108, Tryz.ntmps108
  go_wp2_with fail
  go_region_law (first
    | (refine step_append_any _ rfl (.tmp 12) (.tmp 16) 62 rfl w.heap.size 42 i0 (.pointer none) 1 8 Tryz.underlying62 hi0 hz0 hz1 hz2 rfl (Nat.succ_pos 0) (.slice (some ⟨w.heap.size, 0, none⟩) 1 1) 1 [.pointer (some ⟨b1, 0, none⟩)] (by simp [Act.eval, Act.put]; try omega) (own_of_blk (Blk.new w.drew 42 #[.pointer (some ⟨b1, 0, none⟩)]) (Nat.le_refl _) rfl (by decide) rfl) w.heap.size A n c xs (by simp [Act.eval, Act.put]; try omega) (HR.out.below (by go_grown)) HO.out (by unfold maxLen; omega) (by omega) (by simp; try omega) ?_; intro v1 w1 hown1 hg1 hat1))
  all_goals
    have hB1 : Below w.heap.size w w1 := Below.grown (by go_grown) hg1 (by simp; try omega) (by intro q hq; simp [Value.ownBlock] at hq; omega)
    obtain ⟨A1, c1, rfl⟩ := own_shape hown1
    obtain ⟨g1, rfl, e1, e2, e3⟩ := own_cells hown1 (by omega)
    have HO1 := Lib.hid hown1
    clear hown1
    go_wp2_with fail
    go_ret
    have E : (kidsOf t).length = 1 + n := by rw [HK.out, List.length_cons, ← HN.out, Nat.add_comm]
    have hal : AlikeAt F w w1 := fun k _ hk => hB1.block k hk
    refine ⟨hB1, some ⟨g1, 0, none⟩, c1, .pointer (some ⟨b1, 0, none⟩) :: xs, by rw [E]; rfl, ?_, fun _ => ⟨g1, rfl, e1, e2, e3.2.2⟩⟩
    rw [HK.out, RepPsF]
    exact ⟨_, _, rfl, RepPF.move hal (fun _ h _ => h) _ _ HU.out, RepPsF.move hal (fun _ h _ => h) _ _ HX.out⟩

theorem kids_any (F : Nat → Prop) (t : Term) (v : Value) (w : World) (hv : RepPF F w t v) (hz : size t ≤ 100000) (hF : ∀ k, F k → k < w.heap.size) :
    Calls Tryz.prog 108 #[v] w (RdKids F w t) := by
  cases t with
  | nm s =>
    rw [RepPF] at hv
    obtain ⟨b, rfl, h6, _⟩ := hv
    exact kids_none F _ b w rfl h6.2.2.2.2.1
  | ix n =>
    rw [RepPF] at hv
    obtain ⟨b, rfl, h6, _⟩ := hv
    exact kids_none F _ b w rfl h6.2.2.2.2.1
  | lam t =>
    rw [RepPF] at hv
    obtain ⟨b, p, rfl, h6, h2, _⟩ := hv
    obtain ⟨b1, rfl⟩ := RepPF.ptr t p h2
    exact kids_some F _ t [] b b1 none 0 0 [] w rfl rfl (by omega) hF h6.2.2.2.2.1 h6.2.2.2.2.2.1 h2 (by rw [RepPsF]) (fun h => absurd h (by omega))
  | app t l =>
    rw [RepPF] at hv
    obtain ⟨b, p, q, xs, rfl, h6, h2, ⟨A, c, rfl, hc1, hc2, hA⟩, h4, _⟩ := hv
    obtain ⟨b1, rfl⟩ := RepPF.ptr t p h2
    have hl : l.length ≤ sizes l := by
      clear hA h4 hc1 hz h6
      induction l with
      | nil => simp
      | cons u l ih => have := size_pos u; rw [List.length_cons, sizes]; omega
    rw [size] at hz
    exact kids_some F _ t l b b1 A l.length c xs w rfl rfl (by omega) hF h6.2.2.2.2.1 h6.2.2.2.2.2.1 h2 h4 (fun h => by
      obtain ⟨g, e, h7, h8⟩ := hA h
      exact ⟨g, e, h7, hF g h8⟩)

end Go.Proofs.YtcbciaofajhklaaGreatDoor

/-! The program's spots: where all parts of a term stand. -/
namespace Go.Proofs.YtcbciaofajhklaaGreatDoor
open Go.RowKit Rt

/-- A spot of a part, which does not lie in the block o. -/
def SpotAt (F : Nat → Prop) (w : World) (o : Option Nat) (u : Term) (y : Value) : Prop :=
  ∃ b v, y = .pointer (some ⟨b, 0, none⟩) ∧ w.cell? ⟨b, 0, none⟩ = some v ∧ RepPF F w u v ∧ o ≠ some b

def Spots (F : Nat → Prop) (w : World) (o : Option Nat) : List Term → List Value → Prop
  | [], ys => ys = []
  | u :: us, ys => ∃ y r, ys = y :: r ∧ SpotAt F w o u y ∧ Spots F w o us r

/-- The row is the same, or a new one. -/
def After (w : World) (o o' : Option Nat) : Prop := o' = o ∨ ∃ q, o' = some q ∧ w.heap.size ≤ q

theorem After.trans {a b : World} {o o1 o2 : Option Nat} (h : After a o o1) (k : After b o1 o2) (hs : a.heap.size ≤ b.heap.size) : After a o o2 := by
  rcases k with rfl | ⟨q, rfl, hq⟩
  · exact h
  · exact .inr ⟨q, rfl, by omega⟩

/-- What is grown by a row and then by the row that took its place is grown by the row. -/
theorem grown_after {a b c : World} {o o1 : Option Nat} (h : a.grownBy b o) (ho : After a o o1) (k : b.grownBy c o1) : a.grownBy c o := by
  have hs := h.size
  refine ⟨k.os.trans h.os, k.tape.trans h.tape, k.output.trans h.output, Nat.le_trans hs k.size, fun q hq hne => ?_⟩
  rw [k.block q (by omega) ?_]
  · exact h.block q hq hne
  · rcases ho with rfl | ⟨r, rfl, hr⟩
    · exact hne
    · intro e; injection e with e; omega

theorem SpotAt.go {F : Nat → Prop} {w w' : World} {o o' : Option Nat} {u : Term} {y : Value} (h : SpotAt F w o u y) (hg : w.grownBy w' o) (ho : After w o o') (hF : ∀ k, F k → some k ≠ o) : SpotAt F w' o' u y := by
  obtain ⟨b, v, e, hc, hr, hb⟩ := h
  have hlt := World.block_lt_of_cell? w _ hc
  refine ⟨b, v, e, ?_, RepPF.move (fun k hk hk2 => hg.block k hk2 (hF k hk)) (fun _ h _ => h) _ _ hr, ?_⟩
  · rw [World.cell?_of_block (a := ⟨b, 0, none⟩) (hg.block b hlt (fun e => hb e.symm))]; exact hc
  · rcases ho with rfl | ⟨q, rfl, hq⟩
    · exact hb
    · intro e; injection e with e
      have : b < w.heap.size := hlt
      omega

theorem Spots.go {F : Nat → Prop} {w w' : World} {o o' : Option Nat} (hg : w.grownBy w' o) (ho : After w o o') (hF : ∀ k, F k → some k ≠ o) : ∀ (us : List Term) (ys : List Value), Spots F w o us ys → Spots F w' o' us ys
  | [], _, h => h
  | u :: us, ys, ⟨y, r, e, h, k⟩ => ⟨y, r, e, h.go hg ho hF, Spots.go hg ho hF us r k⟩

theorem Spots.append {F : Nat → Prop} {w : World} {o : Option Nat} : ∀ (us vs : List Term) (ys zs : List Value), Spots F w o us ys → Spots F w o vs zs → Spots F w o (us ++ vs) (ys ++ zs)
  | [], _, _, _, h, k => by cases h; exact k
  | u :: us, vs, _, zs, ⟨y, r, e, h, k⟩, k2 => by
    subst e
    exact ⟨y, r ++ zs, rfl, h, Spots.append us vs r zs k k2⟩

theorem Spots.length {F : Nat → Prop} {w : World} {o : Option Nat} : ∀ (us : List Term) (ys : List Value), Spots F w o us ys → ys.length = us.length
  | [], _, h => by cases h; rfl
  | u :: us, _, ⟨y, r, e, _, k⟩ => by subst e; simp [Spots.length us r k]

theorem Spots.at {F : Nat → Prop} {w : World} {o : Option Nat} : ∀ (us : List Term) (ys : List Value) (i : Nat) (u : Term), Spots F w o us ys → us[i]? = some u → ∃ y, ys[i]? = some y ∧ SpotAt F w o u y
  | [], _, _, _, _, h => by simp at h
  | t :: us, _, 0, u, ⟨y, r, e, h1, _⟩, h => by
    simp at h; subst h; subst e
    exact ⟨y, rfl, h1⟩
  | t :: us, _, i + 1, u, ⟨y, r, e, _, k⟩, h => by
    subst e
    obtain ⟨x, hx, h2⟩ := Spots.at us r i u k (by simpa using h)
    exact ⟨x, by simpa using hx, h2⟩

theorem grown_alloc {w w' : World} {o : Obj} {r : Option Nat} (h : (w.alloc o).grownBy w' r) : w.grownBy w' r := by
  have hs := h.size
  refine ⟨h.os, h.tape, h.output, by simp at hs; omega, fun q hq hne => ?_⟩
  rw [h.block q (by simp; omega) hne]
  exact Below.heap_alloc w o q hq

theorem After.at {w : World} {o o' : Option Nat} {n : Nat} (h : o' = o ∨ o' = some n) (hn : w.heap.size ≤ n) : After w o o' := by
  rcases h with h | h
  · exact .inl h
  · exact .inr ⟨n, h, hn⟩

/-- What spread gives. -/
def SpreadPost (F : Nat → Prop) (w : World) (B k : Nat) (t : Term) (lv : Value) (xs : List Value) (e : Ending) (w' : World) : Prop :=
  ∃ lv' ys, e = .returned lv' ∧ w'.ownsRow B 59 1 lv' (k + size t) (xs ++ ys) ∧ w.grownBy w' lv.ownBlock ∧ After w lv.ownBlock lv'.ownBlock ∧ Spots F w' lv'.ownBlock (subs t) ys

/-- What holds at the head of spread's loop. -/
structure SpreadRel (F : Nat → Prop) (w wr : World) (B k gk : Nat) (t : Term) (lv lvr : Value) (xs zs : List Value) (j : Nat) : Prop where
  le : j ≤ (kidsOf t).length
  grown : w.grownBy wr lv.ownBlock
  after : After w lv.ownBlock lvr.ownBlock
  ex : ∃ ys, wr.ownsRow B 59 1 lvr (k + 1 + sizes ((kidsOf t).take j)) (xs ++ ys) ∧ Spots F wr lvr.ownBlock (t :: subsL ((kidsOf t).take j)) ys
  kids : RepPsF F wr (kidsOf t) zs
  cells : 0 < (kidsOf t).length → Cells wr gk zs ∧ gk < wr.heap.size ∧ some gk ≠ lvr.ownBlock

set_option maxHeartbeats 3200000 in
set_option maxRecDepth 100000 in
theorem spread_any (n : Nat) : ∀ (F : Nat → Prop) (t : Term) (v lv : Value) (a B k : Nat) (xs : List Value) (w : World), size t ≤ n → k + size t ≤ 10000 → B ≤ w.heap.size → (∀ q, F q → q < B) →
    w.cell? ⟨a, 0, none⟩ = some v → lv.ownBlock ≠ some a → RepPF F w t v → w.ownsRow B 59 1 lv k xs →
    Calls Tryz.prog 79 #[.pointer (some ⟨a, 0, none⟩), lv] w (SpreadPost F w B k t lv xs) := by
  induction n with
  | zero => intro F t v lv a B k xs w h; have := size_pos t; omega
  | succ n ih =>
    intro F t v lv a B k xs w hn hk hB hFB hc hne hv hown
    obtain ⟨i0, hi0, hz0, hz1, hz2⟩ := info_parts ptrS_info
    have IH := Lib.hid ih
    have HFB := Lib.hid hFB
    have HV := Lib.hid hv
    have HO := Lib.hid hown
    have HC := Lib.hid hc
    have HNE := Lib.hid hne
    have haw := World.block_lt_of_cell? w _ hc
    have haw' : a < w.heap.size := haw
    have hsp := size_pos t
    obtain ⟨Al, cl, hlv⟩ := own_shape hown
    subst hlv
    clear ih hFB hv hown hc hne haw
    go_enter Tryz.func79, Tryz.ntmps79
    go_wp2_with (at_builtin; refine wpList_append_own_at _ rfl _ _ 47 rfl B 59 i0 (.pointer none) 1 8 Tryz.underlying47 hi0 hz0 hz1 hz2 rfl (Nat.succ_pos 0) (.slice Al k cl) k xs rfl (HO.out.alloc _) ⟨w.heap.size, 0, none⟩ 1 1 [.pointer (some ⟨a, 0, none⟩)] rfl rfl (cell_one_new _ _ _) ?_ ?_ ?_ ?_ ?_)
    · intro u hu
      simp at hu; subst hu; rfl
    · unfold maxLen; omega
    · omega
    · simp; omega
    · intro v1 w1 hown1 hg1 _ hat1
      have hs1 := hg1.size
      have hs1' : w.heap.size + 1 ≤ w1.heap.size := by simpa using hs1
      have hG1 : w.grownBy w1 (Value.slice Al k cl).ownBlock := grown_alloc hg1
      have hA1 : After w (Value.slice Al k cl).ownBlock v1.ownBlock := After.at (n := w.heap.size + 1) (by simpa using hat1) (by omega)
      have hrow := fun q hq => own_block_lt HO.out q hq
      have hFr : ∀ q, F q → some q ≠ (Value.slice Al k cl).ownBlock := fun q hq e => by
        have := hrow q e.symm
        have := HFB.out q hq
        omega
      have hS1 : SpotAt F w1 v1.ownBlock t (.pointer (some ⟨a, 0, none⟩)) := SpotAt.go (w := w) ⟨a, v, rfl, HC.out, HV.out, HNE.out⟩ hG1 hA1 hFr
      have hV1 : RepPF F w1 t v := RepPF.move (fun q hq hq2 => hG1.block q hq2 (hFr q hq)) (fun _ h _ => h) _ _ HV.out
      have c1 : w1.cell? ⟨a, 0, none⟩ = some v := by rw [World.cell?_of_block (a := ⟨a, 0, none⟩) (hG1.block a haw' (fun e => HNE.out e.symm))]; exact HC.out
      obtain ⟨bt, rfl⟩ := RepPF.ptr t v HV.out
      have HKI := Lib.hid (kids_any F t _ w1 hV1 (by omega) (fun q hq => by have := HFB.out q hq; omega))
      obtain ⟨A1, cl1, rfl⟩ := own_shape hown1
      have HO1 := Lib.hid hown1
      have HG1 := Lib.hid hG1
      have HA1 := Lib.hid hA1
      have HS1 := Lib.hid hS1
      have HFR := Lib.hid hFr
      have HROW := Lib.hid hrow
      clear hown1 hg1 hat1 hG1 hA1 hS1 hV1 hFr hrow hs1
      go_wp2_with fail
      refine HKI.out.mono ?_
      rintro e w2 ⟨hb2, Ak, ck, zs, rfl, hzs, hcells⟩
      have hs2 := hb2.size
      have hb2' : w1.grownBy w2 none := ⟨hb2.os, hb2.tape, hb2.output, hb2.size, fun q hq _ => hb2.block q hq⟩
      have hO2 : w2.ownsRow B 59 1 (.slice A1 (k + 1) cl1) (k + 1) (xs ++ [.pointer (some ⟨a, 0, none⟩)]) := HO1.out.kept hb2' (by
        cases hv : (Value.slice A1 (k + 1) cl1).ownBlock with
        | none => exact .inl rfl
        | some q => exact .inr (by simp))
      have hG2 : w.grownBy w2 (Value.slice Al k cl).ownBlock := ⟨hb2.os.trans HG1.out.os, hb2.tape.trans HG1.out.tape, hb2.output.trans HG1.out.output, by omega, fun q hq hne => by rw [hb2.block q (by omega)]; exact HG1.out.block q hq hne⟩
      have hk1 := (own_cells HO1.out (by omega)).choose_spec
      obtain ⟨r1, hA1e, hr1, hr2, -⟩ := own_cells HO1.out (by omega)
      have HREL : Hid (SpreadRel F w w2 B k ((Ak.getD ⟨0, 0, none⟩).block) t (.slice Al k cl) (.slice A1 (k + 1) cl1) xs zs 0) := by
        refine ⟨Nat.zero_le _, hG2, HA1.out, ⟨[.pointer (some ⟨a, 0, none⟩)], by simpa [sizes] using hO2, ?_⟩, hzs, fun h => ?_⟩
        · rw [List.take_zero, subsL]
          refine ⟨_, [], rfl, ?_, rfl⟩
          obtain ⟨b, v, e, h1, h2, h3⟩ := HS1.out
          exact ⟨b, v, e, by rw [hb2.cell (World.block_lt_of_cell? w1 _ h1)]; exact h1, RepPF.move (fun q hq hq2 => hb2.block q hq2) (fun _ h _ => h) _ _ h2, h3⟩
        · obtain ⟨g, rfl, h1, h2, h3⟩ := hcells h
          refine ⟨h3, h2, ?_⟩
          rw [hA1e]
          show some g ≠ some r1
          intro e; injection e with e; omega
      have HCE : Hid (0 < (kidsOf t).length → ∃ g, Ak = some ⟨g, 0, none⟩) := fun h => by
        obtain ⟨g, e, _⟩ := hcells h
        exact ⟨g, e⟩
      have hkl : (kidsOf t).length ≤ 10000 := by
        have h1 := size_kids t
        have h2 : ∀ l : List Term, l.length ≤ sizes l := fun l => by
          induction l with
          | nil => simp
          | cons u l ih => have := size_pos u; rw [List.length_cons, sizes]; omega
        have := h2 (kidsOf t)
        omega
      clear hb2 hzs hcells hb2' hO2 hG2 hk1 hA1e hr1 hr2
      go_wp2_with fail
      go_loopw [1, 17] (fun lv0 iv wr => ∃ (j : Nat) (lvr : Value), lvr = lv0 ∧ j ≤ (kidsOf t).length ∧ iv = .int .i64 j ∧ Hid (SpreadRel F w wr B k ((Ak.getD ⟨0, 0, none⟩).block) t (.slice Al k cl) lvr xs zs j)) (fun _ iv _ => (kidsOf t).length - (intOf iv).toNat)
      case atStart => exact ⟨0, _, rfl, Nat.zero_le _, rfl, HREL.out⟩
      case round =>
        obtain ⟨j, lvr, hlv0, hj, rfl, HR⟩ := hrel
        subst hlv0
        by_cases hlt : j < (kidsOf t).length
        · obtain ⟨gk, rfl⟩ := HCE.out (by omega)
          obtain ⟨u, hu⟩ : ∃ u, (kidsOf t)[j]? = some u := ⟨_, List.getElem?_eq_getElem hlt⟩
          obtain ⟨x, hxk, hrep⟩ := RepPsF.at (kidsOf t) zs j u HR.out.kids hu
          obtain ⟨hcz, hgk, hgn⟩ := HR.out.cells (by omega)
          obtain ⟨ys, hown, hsp⟩ := HR.out.ex
          have e0 : wr.cell? ⟨gk, j, none⟩ = some x := hcz j x hxk
          have hws := HR.out.grown.size
          obtain ⟨bu, rfl⟩ := RepPF.ptr u x hrep
          have hrowr := fun q hq => own_block_lt hown q hq
          have hFrr : ∀ q, F q → some q ≠ lvr.ownBlock := fun q hq e => by
            have := hrowr q e.symm
            have := HFB.out q hq
            omega
          have hgA : wr.grownBy (wr.alloc (.cells #[.pointer (some ⟨bu, 0, none⟩), .pointer (some ⟨a, 0, none⟩), .int .i64 j] 91)) lvr.ownBlock := ⟨rfl, rfl, rfl, by simp, fun q hq _ => Below.heap_alloc wr _ q hq⟩
          have hown2 := hown.alloc (.cells #[.pointer (some ⟨bu, 0, none⟩), .pointer (some ⟨a, 0, none⟩), .int .i64 j] 91)
          have hsu := size_pos u
          have hst := sizes_take (kidsOf t) j u hu
          have hsl := sizes_le (kidsOf t) (j + 1)
          have hsk := size_kids t
          have hcall := IH.out F u (.pointer (some ⟨bu, 0, none⟩)) lvr wr.heap.size B (k + 1 + sizes ((kidsOf t).take j)) (xs ++ ys) (wr.alloc (.cells #[.pointer (some ⟨bu, 0, none⟩), .pointer (some ⟨a, 0, none⟩), .int .i64 j] 91)) (by omega) (by omega) (by simp; omega) HFB.out (by simp) (fun e => by have := hrowr _ e; omega) (RepPF.move (fun q hq hq2 => Below.heap_alloc wr _ q hq2) (fun _ h _ => h) _ _ hrep) hown2
          have HCALL := Lib.hid hcall
          have HSP := Lib.hid (Spots.go hgA (.inl rfl) hFrr _ _ hsp)
          have HFRR := Lib.hid hFrr
          have HGA := Lib.hid hgA
          have HCZ := Lib.hid hcz
          have HGN := Lib.hid hgn
          have HU := Lib.hid (subsL_take (kidsOf t) j u hu)
          have HST := Lib.hid hst
          clear hcall hsp hFrr hgA hown hown2 hrowr hxk hrep hcz hgn hu hst
          go_wp2_with (go_at_call 79; refine HCALL.out.mono ?_; rintro e w4 ⟨lv4, ys4, rfl, ho4, hg4, ha4, hs4⟩; have HO4 := Lib.hid ho4; have HG4 := Lib.hid hg4; have HA4 := Lib.hid ha4; have HS4 := Lib.hid hs4; clear ho4 hg4 ha4 hs4)
          go_roundw
          case measure => simp [intOf]; omega
          case rel =>
            refine ⟨j + 1, lv4, rfl, by omega, by go_num, ?_⟩
            have hA5 : After wr lvr.ownBlock lv4.ownBlock := After.trans (b := wr.alloc (.cells #[.pointer (some ⟨bu, 0, none⟩), .pointer (some ⟨a, 0, none⟩), .int .i64 j] 91)) (.inl rfl) HA4.out HGA.out.size
            have hG5 : wr.grownBy w4 lvr.ownBlock := grown_alloc HG4.out
            have hFr5 : ∀ q, F q → some q ≠ lvr.ownBlock := HFRR.out
            refine ⟨by omega, grown_after HR.out.grown HR.out.after hG5, HR.out.after.trans hA5 hws, ⟨ys ++ ys4, ?_, ?_⟩, ?_, fun _ => ⟨?_, ?_, ?_⟩⟩
            · have h := HO4.out
              rw [HST.out, ← List.append_assoc]
              rw [show k + 1 + (sizes ((kidsOf t).take j) + size u) = k + 1 + sizes ((kidsOf t).take j) + size u by omega]
              exact h
            · rw [HU.out, ← List.cons_append]
              exact Spots.append _ _ _ _ (Spots.go HG4.out HA4.out HFRR.out _ _ HSP.out) HS4.out
            · exact RepPsF.move (fun q hq hq2 => hG5.block q hq2 (hFr5 q hq)) (fun _ h _ => h) _ _ HR.out.kids
            · intro i y hi
              have h1 := HCZ.out i y hi
              rw [World.cell?_of_block (hG5.block gk hgk HGN.out)]; exact h1
            · exact Nat.lt_of_lt_of_le hgk hG5.size
            · rcases hA5 with h | ⟨q, h, hq⟩
              · rw [h]; exact HGN.out
              · rw [h]
                show some gk ≠ some q
                intro e; injection e with e
                have : gk < wr.heap.size := hgk
                omega
        · have hkl2 : (kidsOf t).take j = kidsOf t := List.take_of_length_le (by omega)
          go_wp2_with fail
          go_ret
          obtain ⟨ys, hown, hsp⟩ := HR.out.ex
          rw [hkl2] at hown hsp
          refine ⟨lvr, ys, rfl, ?_, HR.out.grown, HR.out.after, ?_⟩
          · have h := size_kids t
            rw [show k + size t = k + 1 + sizes (kidsOf t) by omega]
            exact hown
          · rw [subs_kids]; exact hsp

/-- What spots gives. -/
def SpotsPost (F : Nat → Prop) (w : World) (t : Term) (e : Ending) (w' : World) : Prop :=
  Below w.heap.size w w' ∧ ∃ g c ys, e = .returned (.slice (some ⟨g, 0, none⟩) (size t) c) ∧ w'.ownsRow w.heap.size 59 1 (.slice (some ⟨g, 0, none⟩) (size t) c) (size t) ys ∧ Spots F w' (some g) (subs t) ys

set_option maxHeartbeats 800000 in
theorem spots_any (F : Nat → Prop) (t : Term) (v : Value) (w : World) (hz : size t ≤ 9000) (hF : ∀ q, F q → q < w.heap.size) (hv : RepPF F w t v) :
    Calls Tryz.prog 48 #[v] w (SpotsPost F w t) := by
  obtain ⟨b, rfl⟩ := RepPF.ptr t v hv
  have hcall := spread_any (size t) F t (.pointer (some ⟨b, 0, none⟩)) (.slice none 0 0) w.heap.size w.heap.size 0 [] (w.alloc (.cells #[.pointer (some ⟨b, 0, none⟩), .pointer none, .int .i64 0] 91)) (Nat.le_refl _) (by omega) (by simp) hF (by simp) (by simp [Value.ownBlock]) (RepPF.move (fun q hq hq2 => Below.heap_alloc w _ q hq2) (fun _ h _ => h) _ _ hv) ⟨rfl, .inl ⟨rfl, rfl⟩⟩
  have HC := Lib.hid hcall
  have hsp := size_pos t
  clear hcall hv
  go_enter Tryz.func48, Tryz.ntmps48
  go_wp2_with (go_at_call 79; refine HC.out.mono ?_; rintro e w4 ⟨lv4, ys4, rfl, ho4, hg4, ha4, hs4⟩; have HO4 := Lib.hid ho4; have HG4 := Lib.hid hg4; have HS4 := Lib.hid hs4; clear ho4 hg4 ha4 hs4)
  go_ret
  have ho := HO4.out
  rw [Nat.zero_add, List.nil_append] at ho
  obtain ⟨A, c, rfl⟩ := own_shape ho
  obtain ⟨g, rfl, -⟩ := own_cells ho hsp
  have hG := grown_alloc HG4.out
  exact ⟨⟨hG.os, hG.tape, hG.output, hG.size, fun q hq => hG.block q hq (by simp [Value.ownBlock])⟩, g, c, ys4, rfl, ho, HS4.out⟩

end Go.Proofs.YtcbciaofajhklaaGreatDoor

/-! The program's redexes: the library's DeleteFunc at the spots, and what it leaves. -/
namespace Go.Proofs.YtcbciaofajhklaaGreatDoor
open Go.RowKit Rt Go.Sort Go.Lib

set_option maxHeartbeats 800000 in
theorem redexes1_any (F : Nat → Prop) (o : Option Nat) (u : Term) (y : Value) (w : World) (h : SpotAt F w o u y) :
    Calls Tryz.prog 49 #[y] w fun e w' => e = .returned (.bool (!isRed u)) ∧ w' = w := by
  obtain ⟨b, v, rfl, hc, hr, -⟩ := h
  obtain ⟨bv, rfl⟩ := RepPF.ptr u v hr
  have HC := Lib.hid (isRedex_any F u _ w hr)
  clear hr
  go_enter Tryz.func49, Tryz.ntmps49
  go_wp2_with (go_at_call 50; refine HC.out.mono ?_; rintro e w1 ⟨rfl, rfl⟩)
  go_ret
  exact ⟨rfl, rfl⟩

/-- What is kept of a list. -/
def kept : List Value → List Bool → List Value
  | y :: ys, f :: fs => if f then y :: kept ys fs else kept ys fs
  | _, _ => []

theorem kept_nil (fs : List Bool) : kept [] fs = [] := by cases fs <;> rfl

theorem kept_take : ∀ (ys : List Value) (fs : List Bool) (j : Nat) (y : Value) (f : Bool), ys[j]? = some y → fs[j]? = some f → kept (ys.take (j + 1)) (fs.take (j + 1)) = kept (ys.take j) (fs.take j) ++ (if f then [y] else [])
  | [], _, j, y, f, h, _ => by simp at h
  | _ :: _, [], j, y, f, _, h => by simp at h
  | z :: ys, g :: fs, 0, y, f, h1, h2 => by
    simp at h1 h2; subst h1; subst h2
    cases g <;> simp [kept]
  | z :: ys, g :: fs, j + 1, y, f, h1, h2 => by
    have := kept_take ys fs j y f (by simpa using h1) (by simpa using h2)
    rw [List.take_succ_cons, List.take_succ_cons, kept, this, List.take_succ_cons, List.take_succ_cons, kept]
    cases g <;> simp

theorem kept_le : ∀ (ys : List Value) (fs : List Bool), (kept ys fs).length ≤ ys.length
  | [], fs => by rw [kept_nil]; simp
  | y :: ys, [] => by simp [kept]
  | y :: ys, f :: fs => by
    have := kept_le ys fs
    rw [kept]; split <;> simp <;> omega

/-- What holds at the head of DeleteFunc's loop. -/
structure DelRel (w wr : World) (g : Nat) (T : TypeId) (c : Nat) (ys : List Value) (fs : List Bool) (i j : Nat) : Prop where
  le : j ≤ ys.length
  lt : i < j
  len : i = (kept (ys.take j) (fs.take j)).length
  grown : w.grownBy wr (some g)
  ex : ∃ cs, Blk wr g T cs ∧ cs.size = c ∧ (∀ m, m < i → cs[m]? = (kept (ys.take j) (fs.take j))[m]?) ∧ (∀ m, j ≤ m → m < ys.length → cs[m]? = ys[m]?)

/-- What IndexFunc gives: the first place at which the flag is not set (what is kept is flagged). -/
def IdxPost (fs : List Bool) (w : World) (e : Ending) (w' : World) : Prop :=
  w = w' ∧ ((e = .returned (.int .i64 (-1)) ∧ ∀ (m : Nat) (f : Bool), fs[m]? = some f → f = true) ∨ ∃ i, e = .returned (.int .i64 (i : Nat)) ∧ fs[i]? = some false ∧ ∀ (m : Nat) (f : Bool), m < i → fs[m]? = some f → f = true)

set_option maxHeartbeats 1600000 in
theorem indexFunc_any (g c : Nat) (ys : List Value) (fs : List Bool) (w : World) (hl : fs.length = ys.length) (hlen : ys.length ≤ 100000) (hc : Cells w g ys)
    (hd : ∀ (m : Nat) (y : Value) (f : Bool), ys[m]? = some y → fs[m]? = some f → Calls Tryz.prog 49 #[y] w fun e w' => e = .returned (.bool (!f)) ∧ w' = w) :
    Calls Tryz.prog 78 #[.slice (some ⟨g, 0, none⟩) ys.length c, .func (.func 49) #[] #[]] w (IdxPost fs w) := by
  have HC := Lib.hid hc
  have HD := Lib.hid hd
  have HL := Lib.hid hl
  clear hc hd hl
  go_enter Tryz.func78, Tryz.ntmps78
  go_wp2_with fail
  go_loop [8] (fun iv => ∃ j : Nat, j ≤ ys.length ∧ iv = .int .i64 j ∧ Hid (∀ (m : Nat) (f : Bool), m < j → fs[m]? = some f → f = true)) (fun iv => ys.length - (intOf iv).toNat)
  case atStart => exact ⟨0, Nat.zero_le _, rfl, fun m f h => absurd h (by omega)⟩
  case round =>
    obtain ⟨j, hj, rfl, HR⟩ := hrel
    by_cases hlt : j < ys.length
    · obtain ⟨y, hy⟩ : ∃ y, ys[j]? = some y := ⟨_, List.getElem?_eq_getElem hlt⟩
      obtain ⟨f, hf⟩ : ∃ f, fs[j]? = some f := ⟨_, List.getElem?_eq_getElem (by rw [HL.out]; exact hlt)⟩
      have e0 := HC.out j y hy
      have HCALL := Lib.hid (HD.out j y f hy hf)
      have HF := Lib.hid hf
      clear hy hf
      cases f
      · go_wp2_with (go_at_call 49; refine HCALL.out.mono ?_; rintro e w1 ⟨rfl, rfl⟩)
        go_ret
        exact ⟨rfl, .inr ⟨j, rfl, HF.out, HR.out⟩⟩
      · go_wp2_with (go_at_call 49; refine HCALL.out.mono ?_; rintro e w1 ⟨rfl, rfl⟩)
        go_round
        case measure => simp [intOf]; omega
        case rel =>
          refine ⟨j + 1, by omega, by go_num, fun m f hm hf => ?_⟩
          by_cases hmj : m = j
          · subst hmj
            have := HF.out
            rw [hf] at this
            injection this
          · exact HR.out m f (by omega) hf
    · go_wp2_with fail
      go_ret
      refine ⟨rfl, .inl ⟨rfl, fun m f hf => HR.out m f ?_ hf⟩⟩
      have h1 := (List.getElem?_eq_some_iff.1 hf).1
      have h2 := HL.out
      omega

theorem grown_setCells (g : Nat) : ∀ (vs : List Value) (o : Nat) (w : World), w.grownBy (w.setCells g o vs) (some g)
  | [], _, w => ⟨rfl, rfl, rfl, Nat.le_refl _, fun _ _ _ => rfl⟩
  | v :: r, o, w => by
    rw [World.setCells]
    have h1 : w.grownBy (w.setCell ⟨g, o, none⟩ v) (some g) := ⟨rfl, rfl, rfl, by simp, fun b _ hne => Below.heap_setCell _ _ _ b (fun e => hne (by rw [e]))⟩
    exact h1.trans (grown_setCells g r (o + 1) _)

theorem kept_true : ∀ (ys : List Value) (fs : List Bool) (j : Nat), fs.length = ys.length → (∀ (m : Nat) (f : Bool), m < j → fs[m]? = some f → f = true) → kept (ys.take j) (fs.take j) = ys.take j
  | [], fs, j, h, _ => by
    have : fs = [] := by simpa using h
    subst this; simp [kept]
  | y :: ys, [], j, h, _ => by simp at h
  | y :: ys, f :: fs, 0, _, _ => by simp [kept]
  | y :: ys, f :: fs, j + 1, h, k => by
    have hf := k 0 f (by omega) rfl
    subst hf
    have := kept_true ys fs j (by simpa using h) (fun m f hm hf => k (m + 1) f (by omega) (by simpa using hf))
    rw [List.take_succ_cons, List.take_succ_cons, kept, if_pos rfl, this]

theorem zeroSpot (w : World) : (zeroValue 59).run Tryz.prog w = .ok (.pointer none) w := by kernel_rfl

set_option maxHeartbeats 3200000 in
set_option maxRecDepth 100000 in
theorem deleteFunc_any (g c B : Nat) (ys : List Value) (fs : List Bool) (w : World) (hl : fs.length = ys.length) (hlen : ys.length ≤ 100000) (hpos : 0 < ys.length)
    (hown : w.ownsRow B 59 1 (.slice (some ⟨g, 0, none⟩) ys.length c) ys.length ys) (hptr : ∀ (m : Nat) (y : Value), ys[m]? = some y → ∃ b, y = .pointer (some ⟨b, 0, none⟩))
    (hd : ∀ (W : World) (m : Nat) (y : Value) (f : Bool), w.grownBy W (some g) → ys[m]? = some y → fs[m]? = some f → Calls Tryz.prog 49 #[y] W fun e w' => e = .returned (.bool (!f)) ∧ w' = W) :
    Calls Tryz.prog 47 #[.slice (some ⟨g, 0, none⟩) ys.length c, .func (.func 49) #[] #[]] w
      fun e w' => e = .returned (.slice (some ⟨g, 0, none⟩) (kept ys fs).length c) ∧ w.grownBy w' (some g) ∧ Cells w' g (kept ys fs) := by
  obtain ⟨g', e', hBg, hglt, hnc, hcm, hcells⟩ := own_cells hown hpos
  injection e' with e'
  injection e' with e'
  subst e'
  have hIF := indexFunc_any g c ys fs w hl hlen hcells (fun m y f h1 h2 => hd w m y f ⟨rfl, rfl, rfl, Nat.le_refl _, fun _ _ _ => rfl⟩ h1 h2)
  have HIF := Lib.hid hIF
  have HD := Lib.hid hd
  have HL := Lib.hid hl
  have HP := Lib.hid hptr
  have HC := Lib.hid hcells
  obtain ⟨cur, hblk, hcs, htk⟩ : ∃ cur : Array Value, Blk w g 59 cur ∧ cur.size = c ∧ cur.toList.take ys.length = ys := by
    rcases hown.2 with ⟨h, _⟩ | ⟨g2, cap, cur, hv, _, hh, h1, h2, h3, h4⟩
    · simp at h
    · injection hv with e1 e2 e3
      injection e1 with e1
      injection e1 with e1
      subst e1
      subst e3
      exact ⟨cur, hh, by simpa using h3, by simpa using h4⟩
  have HBK := Lib.hid hblk
  have HTK := Lib.hid htk
  have HCS := Lib.hid hcs
  unfold maxLen at hcm
  have ht : (ys.take ys.length) = ys := List.take_of_length_le (Nat.le_refl _)
  have hft : (fs.take ys.length) = fs := List.take_of_length_le (by omega)
  have HT := Lib.hid (And.intro ht hft)
  clear hIF hd hl hptr hcells hblk htk hcs hown ht hft
  have eg : ∀ args w, (callFunc 49 args).run Tryz.prog w = .ok (.enter 49 args) w := enters_of Tryz.func49 (by kernel_rfl) rfl
  go_enter Tryz.func47, Tryz.ntmps47
  go_wp2_with fail
  refine HIF.out.mono ?_
  rintro e w1 ⟨rfl, ⟨rfl, hall⟩ | ⟨i0, rfl, hi0, hall⟩⟩
  · have hk : kept ys fs = ys := by
      have := kept_true ys fs ys.length HL.out (fun m f _ hf => hall m f hf)
      rwa [HT.out.1, HT.out.2] at this
    have HK := Lib.hid hk
    clear hall hk
    go_wp2_with fail
    go_ret
    rw [HK.out]
    exact ⟨rfl, ⟨rfl, rfl, rfl, Nat.le_refl _, fun _ _ _ => rfl⟩, HC.out⟩
  · have hi0lt : i0 < ys.length := by rw [← HL.out]; exact (List.getElem?_eq_some_iff.1 hi0).1
    have hne1 : ((i0 : Int) == -1) = false := beq_eq_false_iff_ne.2 (by omega)
    have HREL : Hid (DelRel w w g 59 c ys fs i0 (i0 + 1)) := by
      obtain ⟨y0, hy0⟩ : ∃ y, ys[i0]? = some y := ⟨_, List.getElem?_eq_getElem hi0lt⟩
      have hk := kept_take ys fs i0 y0 false hy0 hi0
      rw [kept_true ys fs i0 HL.out hall] at hk
      simp only [Bool.false_eq_true, if_false, List.append_nil] at hk
      have hcur : ∀ m, m < ys.length → cur[m]? = ys[m]? := fun m hm => by
        have h1 : (cur.toList.take ys.length)[m]? = ys[m]? := by rw [HTK.out]
        rw [List.getElem?_take_of_lt hm] at h1
        rw [← h1]; simp
      refine ⟨by omega, by omega, by rw [hk, List.length_take]; omega, ⟨rfl, rfl, rfl, Nat.le_refl _, fun _ _ _ => rfl⟩, cur, HBK.out, HCS.out, fun m hm => ?_, fun m _ hm => hcur m hm⟩
      rw [hk, hcur m (by omega), List.getElem?_take_of_lt hm]
    clear hall hi0
    go_wp2_with fail
    go_loopw [5, 6] (fun iv jv wr => ∃ i j : Nat, iv = .int .i64 i ∧ jv = .int .i64 j ∧ j ≤ ys.length ∧ i < j ∧ Hid (DelRel w wr g 59 c ys fs i j)) (fun _ jv _ => ys.length - (intOf jv).toNat)
    case atStart => exact ⟨i0, i0 + 1, rfl, by go_num, by omega, by omega, HREL.out⟩
    case round =>
      obtain ⟨i, j, rfl, rfl, hj, hij, HR⟩ := hrel
      obtain ⟨cs, hb, hcs, hlo, hhi⟩ := HR.out.ex
      by_cases hlt : j < ys.length
      · obtain ⟨y, hy⟩ : ∃ y, ys[j]? = some y := ⟨_, List.getElem?_eq_getElem hlt⟩
        obtain ⟨f, hf⟩ : ∃ f, fs[j]? = some f := ⟨_, List.getElem?_eq_getElem (by rw [HL.out]; exact hlt)⟩
        obtain ⟨by_, rfl⟩ := HP.out j y hy
        have e0 : wr.cell? ⟨g, j, none⟩ = some (.pointer (some ⟨by_, 0, none⟩)) := by rw [hb.cell j, hhi j (Nat.le_refl _) hlt]; exact hy
        obtain ⟨old, hold⟩ : ∃ old, cs[i]? = some old := ⟨_, Array.getElem?_eq_getElem (by omega)⟩
        have e1 : wr.cell? ⟨g, i, none⟩ = some old := by rw [hb.cell i]; exact hold
        have f1 := hb.frozen i
        have HCALL := Lib.hid (HD.out wr j _ f HR.out.grown hy hf)
        have HKT := Lib.hid (kept_take ys fs j _ f hy hf)
        have HHB := Lib.hid (And.intro hb (And.intro hcs (And.intro hlo hhi)))
        clear hb hcs hlo hhi hy hf hold
        cases f
        · go_wp2_with (go_at_fn 49; refine HCALL.out.mono ?_; rintro e w1 ⟨rfl, rfl⟩)
          go_roundw
          case measure => simp [intOf]; omega
          case rel =>
            refine ⟨i, j + 1, rfl, by go_num, by omega, by omega, ?_⟩
            obtain ⟨hb, hcs, hlo, hhi⟩ := HHB.out
            have hk := HKT.out
            simp only [Bool.false_eq_true, if_false, List.append_nil] at hk
            refine ⟨by omega, by omega, by rw [hk]; exact HR.out.len, HR.out.grown, cs, hb, hcs, fun m hm => by rw [hk]; exact hlo m hm, fun m hm hm2 => hhi m (by omega) hm2⟩
        · go_wp2_with (go_at_fn 49; refine HCALL.out.mono ?_; rintro e w1 ⟨rfl, rfl⟩)
          go_roundw
          case measure => simp [intOf]; omega
          case rel =>
            refine ⟨i + 1, j + 1, by go_num, by go_num, by omega, by omega, ?_⟩
            obtain ⟨hb, hcs, hlo, hhi⟩ := HHB.out
            have hk := HKT.out
            simp only [if_true] at hk
            have hln := HR.out.len
            have hG : w1.grownBy (w1.setCell ⟨g, i, none⟩ (.pointer (some ⟨by_, 0, none⟩))) (some g) := ⟨rfl, rfl, rfl, by simp, fun b _ hne => Below.heap_setCell _ _ _ b (fun e => hne (by rw [e]))⟩
            refine ⟨by omega, by omega, by rw [hk, List.length_append, ← hln]; rfl, HR.out.grown.trans hG, _, hb.set_ i _, by simpa using hcs, fun m hm => ?_, fun m hm hm2 => ?_⟩
            · rw [hk]
              by_cases hmi : m = i
              · subst hmi
                rw [Array.getElem?_setIfInBounds, if_pos rfl, if_pos (by omega), List.getElem?_append_right (by omega), hln]; simp
              · rw [Array.getElem?_setIfInBounds, if_neg (fun e => hmi e.symm), hlo m (by omega), List.getElem?_append_left (by omega)]
            · rw [Array.getElem?_setIfInBounds, if_neg (by omega), hhi m (by omega) hm2]
      · have hje : j = ys.length := by omega
        subst hje
        have hk : i = (kept ys fs).length := by
          have := HR.out.len
          rwa [HT.out.1, HT.out.2] at this
        have hcl : ∀ ty, (Builtin.clear_ #[47] ty #[.slice (some ⟨g, i, none⟩) (ys.length - i) (c - i)]).run Tryz.prog wr = .ok (.tuple #[]) (wr.setCells g i (List.replicate (ys.length - i) (.pointer none))) := fun ty =>
          Lib.run_clear_slice wr _ _ ty _ Tryz.underlying47 zeroSpot rfl rfl g i _ _ (by omega) (fun t ht => by rw [hb.cell, Array.getElem?_eq_getElem (by omega)]; rfl) (fun t ht => hb.frozen _)
        have HHB := Lib.hid (And.intro hb hlo)
        have HK := Lib.hid hk
        clear hb hcs hlo hhi hk
        go_wp2_with fail
        go_ret
        rw [← HK.out]
        refine ⟨rfl, HR.out.grown.trans (grown_setCells g _ _ _), fun m y hy => ?_⟩
        have hm : m < i := by rw [HK.out]; exact (List.getElem?_eq_some_iff.1 hy).1
        rw [World.cell?_setCells_out g _ _ _ _ (fun _ _ => .inl hm), HHB.out.1.cell m, HHB.out.2 m hm, HT.out.1, HT.out.2]
        exact hy

theorem Spots.keep {F : Nat → Prop} {w : World} {o : Option Nat} : ∀ (us : List Term) (ys : List Value), Spots F w o us ys → Spots F w o (us.filter isRed) (kept ys (us.map isRed))
  | [], _, h => by cases h; exact rfl
  | u :: us, _, ⟨y, r, e, h, k⟩ => by
    subst e
    have := Spots.keep us r k
    rw [List.map_cons, kept, List.filter_cons]
    cases hu : isRed u
    · rw [if_neg (by simp), if_neg (by simp)]; exact this
    · rw [if_pos rfl, if_pos rfl]; exact ⟨y, _, rfl, h, this⟩

/-- What redexes gives. -/
def RedPost (F : Nat → Prop) (w : World) (t : Term) (e : Ending) (w' : World) : Prop :=
  Below w.heap.size w w' ∧ ∃ g c ys, e = .returned (.slice (some ⟨g, 0, none⟩) (redN t) c) ∧ w.heap.size ≤ g ∧ Cells w' g ys ∧ Spots F w' (some g) ((subs t).filter isRed) ys

set_option maxHeartbeats 800000 in
theorem redexes_any (F : Nat → Prop) (t : Term) (v : Value) (w : World) (hz : size t ≤ 9000) (hF : ∀ q, F q → q < w.heap.size) (hv : RepPF F w t v) :
    Calls Tryz.prog 20 #[v] w (RedPost F w t) := by
  obtain ⟨b, rfl⟩ := RepPF.ptr t v hv
  have HS := Lib.hid (spots_any F t _ w hz hF hv)
  have HF := Lib.hid hF
  have hsp := size_pos t
  clear hv hF
  go_enter Tryz.func20, Tryz.ntmps20
  go_wp2_with fail
  refine HS.out.mono ?_
  rintro e w2 ⟨hb, g, c, ys, rfl, hown, hsp2⟩
  have hyl : ys.length = size t := by rw [Spots.length _ _ hsp2, subs_size]
  have hgB : w.heap.size ≤ g := (own_block_lt hown g rfl).1
  have hFg : ∀ k, F k → some k ≠ some g := fun k hk e => by
    injection e with e
    have := HF.out k hk
    omega
  have hdel := deleteFunc_any g c w.heap.size ys ((subs t).map isRed) w2 (by rw [List.length_map, subs_size, hyl]) (by omega) (by omega) (by rw [hyl]; exact hown)
    (fun m y hy => by
      have hm := (List.getElem?_eq_some_iff.1 hy).1
      obtain ⟨u, hu⟩ : ∃ u, (subs t)[m]? = some u := ⟨_, List.getElem?_eq_getElem (by rw [subs_size]; omega)⟩
      obtain ⟨y2, hy2, b, v, e, _⟩ := Spots.at _ _ m u hsp2 hu
      rw [hy] at hy2
      injection hy2 with hy2
      exact ⟨b, hy2.trans e⟩)
    (fun W m y f hW hy hf => by
      rw [List.getElem?_map] at hf
      obtain ⟨u, hu, rfl⟩ := Option.map_eq_some_iff.1 hf
      obtain ⟨y2, hy2, h2⟩ := Spots.at _ _ m u hsp2 hu
      rw [hy] at hy2
      injection hy2 with hy2
      subst hy2
      exact redexes1_any F (some g) u _ W (SpotAt.go h2 hW (.inl rfl) hFg))
  rw [hyl] at hdel
  have hkl : (kept ys ((subs t).map isRed)).length = redN t := by
    rw [Spots.length _ _ (Spots.keep _ _ hsp2), subs_red]
  rw [hkl] at hdel
  have HD := Lib.hid hdel
  have HX := Lib.hid (And.intro hb (And.intro hsp2 hFg))
  clear hb hown hsp2 hdel hkl hFg hyl
  go_wp2_with fail
  refine HD.out.mono ?_
  rintro e w3 ⟨rfl, hg3, hc3⟩
  have HE := Lib.hid (And.intro hg3 hc3)
  clear hg3 hc3
  go_wp2_with fail
  go_ret
  refine ⟨HX.out.1.grown HE.out.1 HX.out.1.size (fun k hk => by injection hk with hk; omega), g, c, _, rfl, hgB, HE.out.2, Spots.keep _ _ (Spots.go HE.out.1 (.inl rfl) HX.out.2.2 _ _ HX.out.2.1)⟩

end Go.Proofs.YtcbciaofajhklaaGreatDoor
