/- The program's redexes: the parts of a term, where all parts stand, those that are redexes. -/
import Derived.Test.YtdijebbmjgmaiaaGreatDoorImpE
import Derived.Test.YtdijebbmjgmaiaaGreatDoorSpecK
import Derived.Test.YtdijebbmjgmaiaaGreatDoorRedA
import Derived.Deep.RegionLaw
set_option linter.unusedSimpArgs false
set_option linter.unusedVariables false
namespace Go.Proofs.YtdijebbmjgmaiaaGreatDoor
open Go.RowKit Rt

theorem ptrT_info : (Tryz.prog.info? 31).map (fun i => (i.zero, i.size, i.bytes)) = some (some (.pointer none), 1, 8) := by kernel_rfl
theorem ptrS_info : (Tryz.prog.info? 57).map (fun i => (i.zero, i.size, i.bytes)) = some (some (.pointer none), 1, 8) := by kernel_rfl

set_option maxHeartbeats 800000 in
theorem isRedex_any (F : Nat → Prop) (t : Term) (v : Value) (w : World) (hv : RepPF F w t v) :
    Calls Tryz.prog 43 #[v] w fun e w' => e = .returned (.bool (isRed t)) ∧ w' = w := by
  have other : ∀ (b k : Nat), v = .pointer (some ⟨b, 0, none⟩) → w.cell? ⟨b, 0, none⟩ = some (.int .i64 k) → (k = 0 ∨ k = 1 ∨ k = 2) → isRed t = false → Calls Tryz.prog 43 #[v] w fun e w' => e = .returned (.bool (isRed t)) ∧ w' = w := by
    intro b k hb hc hk hi
    subst hb
    rw [hi]
    clear hv hi
    have hk3 : ((k : Int) == 3) = false := by simp; omega
    go_enter Tryz.func43, Tryz.ntmps43
    go_wp2_with fail
    go_ret
    exact ⟨rfl, rfl⟩
  cases t with
  | nm s =>
    have hv2 := hv
    rw [RepPF] at hv2
    obtain ⟨b, e, h6, hb⟩ := hv2
    exact other b 0 e h6.1 (by omega) rfl
  | ix n =>
    have hv2 := hv
    rw [RepPF] at hv2
    obtain ⟨b, e, h6, hb⟩ := hv2
    exact other b 1 e h6.1 (by omega) rfl
  | lam t =>
    have hv2 := hv
    rw [RepPF] at hv2
    obtain ⟨b, p, e, h6, _, hb⟩ := hv2
    exact other b 2 e h6.1 (by omega) rfl
  | app t l =>
    clear other
    rw [RepPF] at hv
    obtain ⟨b, p, q, xs, rfl, h6, h2, _, _, hb⟩ := hv
    obtain ⟨b2, i2, p2, l2, rfl, h62, _⟩ := RepPF.head t p h2
    have c0 : w.cell? ⟨b, 0, none⟩ = some (.int .i64 3) := h6.1
    have c5 := h6.2.2.2.2.1
    have d0 := h62.1
    have e : isRed (.app t l) = ((kindOf t : Int) == 2) := by cases t <;> rfl
    rw [e]
    clear h6 h62 h2 e
    generalize kindOf t = k at *
    go_enter Tryz.func43, Tryz.ntmps43
    go_wp2_with fail
    go_ret
    exact ⟨rfl, rfl⟩

/-- The parts of a term next below it. -/
def kidsOf : Term → List Term
  | .lam t => [t]
  | .app t l => t :: l
  | _ => []

theorem subs_kids (t : Term) : subs t = t :: subsL (kidsOf t) := by
  cases t <;> simp [subs, kidsOf, subsL]
theorem size_kids (t : Term) : size t = 1 + sizes (kidsOf t) := by
  cases t <;> simp [size, kidsOf, sizes]
  omega

/-- What kids gives. -/
def KidsPost (F : Nat → Prop) (w : World) (t : Term) (e : Ending) (w' : World) : Prop :=
  Below w.heap.size w w' ∧ ∃ A c xs, e = .returned (.slice A (kidsOf t).length c) ∧ RepPsF F w' (kidsOf t) xs ∧ (0 < (kidsOf t).length → ∃ g, A = some ⟨g, 0, none⟩ ∧ w.heap.size ≤ g ∧ g < w'.heap.size ∧ Cells w' g xs)

theorem kids_none (F : Nat → Prop) (t : Term) (b : Nat) (w : World) (hk : kidsOf t = []) (hc : w.cell? ⟨b, 5, none⟩ = some (.pointer none)) :
    Calls Tryz.prog 66 #[.pointer (some ⟨b, 0, none⟩)] w (KidsPost F w t) := by
  have HF : Hid (KidsPost F w t (.returned (.slice none 0 0)) w) := ⟨Below.refl _ _, none, 0, [], by rw [hk]; rfl, by rw [hk, RepPsF], by rw [hk]; simp⟩
  clear hk
  go_enter Tryz.func66, Tryz.ntmps66
  go_wp2_with fail
  go_ret
  exact HF.out

theorem repPF_one {F : Nat → Prop} {w : World} {t : Term} {v : Value} (h : RepPF F w t v) : v.oneCell' = true := by
  obtain ⟨b, i, p, l, rfl, _⟩ := RepPF.head t v h
  rfl
theorem repPsF_one {F : Nat → Prop} {w : World} : ∀ (l : List Term) (xs : List Value), RepPsF F w l xs → ∀ u ∈ xs, u.oneCell' = true
  | [], xs, h, u, hu => by rw [RepPsF] at h; subst h; simp at hu
  | t :: l, xs, h, u, hu => by
    rw [RepPsF] at h
    obtain ⟨x, r, rfl, h3, h4⟩ := h
    rcases List.mem_cons.1 hu with rfl | hu
    · exact repPF_one h3
    · exact repPsF_one l r h4 u hu

set_option maxHeartbeats 1600000 in
set_option maxRecDepth 100000 in
theorem kids_some (F : Nat → Prop) (t u : Term) (l : List Term) (b b1 : Nat) (A : Option Addr) (n c : Nat) (xs : List Value) (w : World) (hk : kidsOf t = u :: l) (hn : n = l.length) (hl : n ≤ 100000) (hF : ∀ k, F k → k < w.heap.size)
    (h1 : w.cell? ⟨b, 5, none⟩ = some (.pointer (some ⟨b1, 0, none⟩))) (h2 : w.cell? ⟨b, 6, none⟩ = some (.slice A n c)) (hu : RepPF F w u (.pointer (some ⟨b1, 0, none⟩))) (hx : RepPsF F w l xs)
    (hr : 0 < n → ∃ g, A = some ⟨g, 0, none⟩ ∧ Cells w g xs ∧ g < w.heap.size) :
    Calls Tryz.prog 66 #[.pointer (some ⟨b, 0, none⟩)] w (KidsPost F w t) := by
  obtain ⟨i0, hi0, hz0, hz1, hz2⟩ := info_parts ptrT_info
  have hxl := RepPsF.length l xs hx
  have HR : Hid (Reads w w.heap.size 1 A n xs) := by
    refine ⟨by omega, fun h => ?_⟩
    obtain ⟨g, rfl, hc, hg⟩ := hr h
    exact ⟨_, rfl, hg, fun j u hj => by rw [Addr.add_lit, Nat.zero_add]; exact hc j u hj⟩
  have HO := Lib.hid (repPsF_one l xs hx)
  have H1 : ∀ o, (w.alloc o).cell? ⟨b, 5, none⟩ = some (.pointer (some ⟨b1, 0, none⟩)) := fun o => cell_alloc (w := w) h1 o
  have H2 : ∀ o, (w.alloc o).cell? ⟨b, 6, none⟩ = some (.slice A n c) := fun o => cell_alloc (w := w) h2 o
  have HU := Lib.hid hu
  have HX := Lib.hid hx
  have HFF := Lib.hid hF
  have HK := Lib.hid hk
  have HN := Lib.hid hn
  clear hu hx hF hk hr hn
  go_enter Tryz.func66, Tryz.ntmps66
  go_wp2_with fail
  go_region_law (first
    | (refine step_append_any _ rfl (.tmp 12) (.tmp 16) 39 rfl w.heap.size 31 i0 (.pointer none) 1 8 Tryz.underlying39 hi0 hz0 hz1 hz2 rfl (Nat.succ_pos 0) (.slice (some ⟨w.heap.size, 0, none⟩) 1 1) 1 [.pointer (some ⟨b1, 0, none⟩)] (by simp [Act.eval, Act.put]; try omega) (own_of_blk (Blk.new w.drew 31 #[.pointer (some ⟨b1, 0, none⟩)]) (Nat.le_refl _) rfl (by decide) rfl) w.heap.size A n c xs (by simp [Act.eval, Act.put]; try omega) (HR.out.below (by go_grown)) HO.out (by unfold maxLen; omega) (by omega) (by simp; try omega) ?_; intro v1 w1 hown1 hg1 hat1))
  all_goals
    have hB1 : Below w.heap.size w w1 := Below.grown (by go_grown) hg1 (by simp; try omega) (by intro q hq; simp [Value.ownBlock] at hq; omega)
    obtain ⟨A1, c1, rfl⟩ := own_shape hown1
    obtain ⟨g1, rfl, e1, e2, e3⟩ := own_cells hown1 (by omega)
    have HO1 := Lib.hid hown1
    clear hown1
    go_wp2_with fail
    go_ret
    have E : (kidsOf t).length = 1 + n := by rw [HK.out, List.length_cons, ← HN.out, Nat.add_comm]
    have hal : AlikeAt F w w1 := fun k _ hk => hB1.block k hk
    refine ⟨hB1, some ⟨g1, 0, none⟩, c1, .pointer (some ⟨b1, 0, none⟩) :: xs, by rw [E]; rfl, ?_, fun _ => ⟨g1, rfl, e1, e2, e3.2.2⟩⟩
    rw [HK.out, RepPsF]
    exact ⟨_, _, rfl, RepPF.move hal (fun _ h _ => h) _ _ HU.out, RepPsF.move hal (fun _ h _ => h) _ _ HX.out⟩

theorem kids_any (F : Nat → Prop) (t : Term) (v : Value) (w : World) (hv : RepPF F w t v) (hz : size t ≤ 100000) (hF : ∀ k, F k → k < w.heap.size) :
    Calls Tryz.prog 66 #[v] w (KidsPost F w t) := by
  cases t with
  | nm s =>
    rw [RepPF] at hv
    obtain ⟨b, rfl, h6, _⟩ := hv
    exact kids_none F _ b w rfl h6.2.2.2.2.1
  | ix n =>
    rw [RepPF] at hv
    obtain ⟨b, rfl, h6, _⟩ := hv
    exact kids_none F _ b w rfl h6.2.2.2.2.1
  | lam t =>
    rw [RepPF] at hv
    obtain ⟨b, p, rfl, h6, h2, _⟩ := hv
    obtain ⟨b1, rfl⟩ := RepPF.ptr t p h2
    exact kids_some F _ t [] b b1 none 0 0 [] w rfl rfl (by omega) hF h6.2.2.2.2.1 h6.2.2.2.2.2.1 h2 (by rw [RepPsF]) (fun h => absurd h (by omega))
  | app t l =>
    rw [RepPF] at hv
    obtain ⟨b, p, q, xs, rfl, h6, h2, ⟨A, c, rfl, hc1, hc2, hA⟩, h4, _⟩ := hv
    obtain ⟨b1, rfl⟩ := RepPF.ptr t p h2
    have hl : l.length ≤ sizes l := by
      clear hA h4 hc1 hz h6
      induction l with
      | nil => simp
      | cons u l ih => have := size_pos u; rw [List.length_cons, sizes]; omega
    rw [size] at hz
    exact kids_some F _ t l b b1 A l.length c xs w rfl rfl (by omega) hF h6.2.2.2.2.1 h6.2.2.2.2.2.1 h2 h4 (fun h => by
      obtain ⟨g, e, h7, h8⟩ := hA h
      exact ⟨g, e, h7, hF g h8⟩)

end Go.Proofs.YtdijebbmjgmaiaaGreatDoor
