/- The walk of fromPart: atoms, lam. The walk of fromPart: lam. The walk of fromPart: what is no term by its head or its length. The walk of fromBag. -/
import Derived.Test.YtopmkddmllmecaaGreatDoorImpO
import Derived.Test.YtopmkddmllmecaaGreatDoorImpE
import Derived.Test.YtopmkddmllmecaaGreatDoorPure
/-! The walk of fromPart: atoms, lam. -/
namespace Go.Proofs.YtopmkddmllmecaaGreatDoor
open Go.RowKit Rt Go.Lib

/-- What is asked of a part. -/
structure PartIn (X : Nat → Prop) (w : World) (m : Nat) (x : Tree) (v : Value) (k : Nat) : Prop where
  rep : RepXF X w x v
  far : ¬ X m
  len : (textT x).length ≤ 4000
  dep : nodes x + k ≤ 1000000

/-- What fromPart does, for parts of N nodes or fewer. -/
def PartSaid (X : Nat → Prop) (p m N : Nat) : Prop :=
  ∀ (F : Nat → Prop) (x : Tree) (v : Value) (k n : Nat) (D : DataW Value) (w : World), nodes x ≤ N → PartIn X w m x v k → n + nodes x ≤ 900000 → Pool F w p m n D →
    Calls Tryz.prog 112 #[.pointer (some ⟨p, 0, none⟩), v, .int .i64 k] w (PartPost F w p m n (nodes x) ((toTerm k x).map sort))

set_option maxHeartbeats 1600000 in
set_option maxRecDepth 100000 in
theorem fromPart_atom (X F : Nat → Prop) (a : B) (v : Value) (k p m n : Nat) (D : DataW Value) (w : World) (hI : PartIn X w m (.atom a) v k) (hn : n + 1 ≤ 900000) (hP : Pool F w p m n D) :
    Calls Tryz.prog 112 #[.pointer (some ⟨p, 0, none⟩), v, .int .i64 k] w (PartPost F w p m n 1 ((toTerm k (.atom a)).map sort)) := by
  have hr := hI.rep
  rw [RepXF] at hr
  obtain ⟨b, rfl, h1, h2, hb⟩ := hr
  have hlen := hI.len
  rw [textT] at hlen
  have hd := hI.dep
  have HC := Lib.hid (fromAtom_any F a k p m n D w (by omega) (by omega) (by omega) hP)
  rw [st_eq] at h1
  rw [st_eq] at HC
  generalize (toTerm k (.atom a)).map sort = r at HC ⊢
  clear hI hP hlen hd
  go_enter Tryz.func112, Tryz.ntmps112
  go_wp2_with (go_at_call 127; refine HC.out.mono ?_; intro e w1 hq; obtain ⟨u, ok, he⟩ := PartPost.shape hq; subst he; have HQ := Lib.hid hq; clear hq)
  refine bodyPost_ret (v := .tuple #[u, .bool ok]) ?_ rfl ?_
  · simp [results, Tryz.results112, go_sem]
  · exact HQ.out

end Go.Proofs.YtopmkddmllmecaaGreatDoor

/-! The walk of fromPart: lam. -/
namespace Go.Proofs.YtopmkddmllmecaaGreatDoor
open Go.RowKit Rt Go.Lib

mutual
theorem sizeImp_nodes : ∀ t : Term, size t ≤ nodes (ofTerm t)
  | .nm _ => by simp [size, ofTerm, nodes]
  | .ix _ => by simp [size, ofTerm, nodes]
  | .lam t => by
    have := sizeImp_nodes t
    simp only [size, ofTerm, nodes, nodesL]; omega
  | .app t b => by
    have := sizeImp_nodes t
    have := sizesImp_nodes b
    simp only [size, ofTerm, nodes, nodesL]; omega
theorem sizesImp_nodes : ∀ b : List Term, sizes b ≤ nodesL (ofTerms b)
  | [] => by simp [sizes, ofTerms, nodesL]
  | t :: b => by
    have := sizeImp_nodes t
    have := sizesImp_nodes b
    simp only [sizes, ofTerms, nodesL]; omega
end

/-- From a wider footprint of an elder world, of which all has stayed but for the row m. -/
theorem PoolPost.elder3 {F : Nat → Prop} {w w3 w4 : World} {p m n : Nat} {t : Term} {e : Ending} (hg : w.grownBy w3 (some m)) (hm : ¬ F m) (hmw : m + 1 ≤ w.heap.size) (h : PoolPost (fun k => F k ∨ w.heap.size ≤ k) w3 p m n t e w4) : PoolPost F w p m n t e w4 := by
  obtain ⟨hg2, v, D, he, h1, h2⟩ := h
  have hs := hg.size
  refine ⟨hg.trans hg2, v, D, he, RepPF.wider h1 ?_, Pool.wider h2 ?_ ?_⟩
  · rintro k ((hk | hk) | hk)
    · exact .inl hk
    · exact .inr hk
    · exact .inr (by omega)
  · rintro k ((hk | hk) | hk)
    · exact .inl hk
    · exact .inr hk
    · exact .inr (by omega)
  · rintro (hk | hk)
    · exact hm hk
    · omega

theorem PartPost.more {F : Nat → Prop} {w w' : World} {p m n k k' : Nat} {r : Option Term} {t : Term} {v : Value} (hr : r = some t) (hk : k ≤ n + k') (h : PoolPost F w p m k t (.returned v) w') : PartPost F w p m n k' r (.returned (.tuple #[v, .bool true])) w' := by
  obtain ⟨hg, v', D, he, h1, h2⟩ := h
  injection he with he
  subst he
  exact PartPost.yes hr hg rfl hk h1 h2

set_option maxHeartbeats 1600000 in
set_option maxRecDepth 100000 in
theorem fromPart_lam (X F : Nat → Prop) (y : Tree) (v : Value) (k p m n N : Nat) (D : DataW Value) (w : World) (IH : PartSaid X p m N) (hy : nodes y ≤ N) (hI : PartIn X w m (.list [.atom sLam, y]) v k) (hn : n + nodes (.list [.atom sLam, y]) ≤ 900000) (hP : Pool F w p m n D)
    (hT : toTerm k (.list [.atom sLam, y]) = (toTerm (k + 1) y).map .lam) :
    Calls Tryz.prog 112 #[.pointer (some ⟨p, 0, none⟩), v, .int .i64 k] w (PartPost F w p m n (nodes (.list [.atom sLam, y])) ((toTerm k (.list [.atom sLam, y])).map sort)) := by
  have hr := hI.rep
  rw [RepXF] at hr
  obtain ⟨b, g, c, xs, rfl, h1, h2, h3, h4, h5, h6, hb, hg, _⟩ := hr
  rw [RepXsF] at h6
  obtain ⟨x0, xs, rfl, h7, h6⟩ := h6
  rw [RepXF] at h7
  obtain ⟨b0, rfl, a1, a2, _⟩ := h7
  rw [RepXsF] at h6
  obtain ⟨x1, xs, rfl, h8, _⟩ := h6
  have e0 : w.cell? ⟨g, 0, none⟩ = some (.pointer (some ⟨b0, 0, none⟩)) := h5 0 _ rfl
  have e1 : w.cell? ⟨g, 1, none⟩ = some x1 := h5 1 _ rfl
  have hnod : nodes (.list [.atom sLam, y]) = nodes y + 2 := by simp only [nodes, nodesL]; omega
  have hlen := hI.len
  have hly : (textT y).length + 6 = (textT (.list [.atom sLam, y])).length := by simp [textT, textL, sLam]
  have hd := hI.dep
  have hIy : PartIn X w m y x1 (k + 1) := ⟨h8, hI.far, by omega, by omega⟩
  have HC := Lib.hid (IH F y x1 (k + 1) n D w hy hIy (by omega) hP)
  rw [st_eq] at h1 a1
  have q0 : ((⟨sLam.toArray⟩ : ByteArray).toList == [108, 97, 109]) = true := by rw [ByteArray.toList_eq]; rfl
  have HP := Lib.hid hP
  simp only [List.length_cons, List.length_nil] at h2 h3
  generalize (⟨sLam.toArray⟩ : ByteArray) = sl at *
  cases ht : toTerm (k + 1) y with
  | none =>
    rw [ht] at hT HC
    have HR : Hid ((toTerm k (.list [.atom sLam, y])).map sort = none) := by show _ = _; rw [hT]; rfl
    generalize (toTerm k (.list [.atom sLam, y])).map sort = r at HR ⊢
    clear hI hIy hT ht h5 h8 IH hP
    go_enter Tryz.func112, Tryz.ntmps112
    go_wp2_with (go_at_call 112; refine HC.out.mono ?_; rintro e w1 ⟨hg1, rfl⟩; have HG := Lib.hid hg1; clear hg1)
    all_goals
      refine bodyPost_ret (v := .tuple #[.pointer none, .bool false]) ?_ rfl ?_
      · simp [results, Tryz.results112, go_sem]
      · exact PartPost.no HR.out HG.out rfl
  | some t =>
    rw [ht] at hT HC
    obtain ⟨hof, hok⟩ := toTerm_some _ _ _ ht
    have HR : Hid ((toTerm k (.list [.atom sLam, y])).map sort = some (.lam (sort t))) := by show _ = _; rw [hT]; simp [sort]
    have HL : Hid (∀ (W : World) (n' : Nat) (D' : DataW Value) (u : Value), n' ≤ n + nodes y → w.grownBy W (some m) → RepPF (fun k => F k ∨ w.heap.size ≤ k) W (sort t) u → Pool (fun k => F k ∨ w.heap.size ≤ k) W p m n' D' → Calls Tryz.prog 85 #[.pointer (some ⟨p, 0, none⟩), u] W (PoolPost F w p m (n' + 1) (.lam (sort t)))) := by
      intro W n' D' u hn' hgr hu hp
      have hz := sizeImp_nodes t
      rw [← hof] at hz
      refine (lam_any _ (sort t) k u p m n' D' W (by rw [ok, ok_sort]; exact hok) ?_ (by rw [size_sort]; omega) (by omega) hp hu).mono (fun e w' hh => PoolPost.elder3 hgr HP.out.far HP.out.map.lt hh)
      have : (text t).length = (textT y).length := by rw [text, ← hof]
      rw [text_lam, List.length_append, List.length_append, text_sort_len]
      simp; omega
    generalize (toTerm k (.list [.atom sLam, y])).map sort = r at HR ⊢
    clear hI hIy hT ht h5 h8 IH hP hof hok
    go_enter Tryz.func112, Tryz.ntmps112
    go_wp2_with (first
      | (go_at_call 112; refine HC.out.mono ?_; rintro e w1 ⟨hg1, u, D1, n1, rfl, hn1, hu, hp⟩; have HG := Lib.hid (HL.out w1 n1 D1 u hn1 hg1 hu hp); clear hg1 hu hp)
      | (go_at_call 85; refine HG.out.mono ?_; rintro e w2 hq; have HQ := Lib.hid hq; obtain ⟨-, u2, D2, rfl, -, -⟩ := hq))
    all_goals
      refine bodyPost_ret (v := .tuple #[u2, .bool true]) ?_ rfl ?_
      · simp [results, Tryz.results112, go_sem]
      · exact PartPost.more HR.out (by omega) HQ.out

end Go.Proofs.YtopmkddmllmecaaGreatDoor

/-! The walk of fromPart: what is no term by its head or its length. -/
namespace Go.Proofs.YtopmkddmllmecaaGreatDoor
open Go.RowKit Rt Go.Lib

theorem head_cell {X : Nat → Prop} {w : World} (t : Tree) (r : List Tree) (v : Value) (h : RepXF X w t v) : ∃ b, v = .pointer (some ⟨b, 0, none⟩) ∧ w.cell? ⟨b, 0, none⟩ = some (st (headT (.list (t :: r)))) := by
  cases t with
  | atom a => rw [RepXF] at h; obtain ⟨b, h1, h2, _⟩ := h; exact ⟨b, h1, h2⟩
  | list l => rw [RepXF] at h; obtain ⟨b, g, c, xs, h1, h2, _⟩ := h; exact ⟨b, h1, h2⟩

set_option maxHeartbeats 1600000 in
set_option maxRecDepth 100000 in
theorem fromPart_no (X F : Nat → Prop) (l : List Tree) (v : Value) (k p m n N : Nat) (w : World) (hI : PartIn X w m (.list l) v k)
    (hT : toTerm k (.list l) = none)
    (hq : ((headT (.list l) == [108, 97, 109]) = false ∧ (headT (.list l) == [97, 112, 112]) = false) ∨ ((headT (.list l) == [108, 97, 109]) = true ∧ (((l.length : Int) == 2) = false)) ∨ ((headT (.list l) == [108, 97, 109]) = false ∧ (headT (.list l) == [97, 112, 112]) = true ∧ (((l.length : Int) == 3) = false))) :
    Calls Tryz.prog 112 #[.pointer (some ⟨p, 0, none⟩), v, .int .i64 k] w (PartPost F w p m n N ((toTerm k (.list l)).map sort)) := by
  have hr := hI.rep
  rw [RepXF] at hr
  obtain ⟨b, g, c, xs, rfl, h1, h2, h3, h4, h5, h6, hb, hg, hne⟩ := hr
  obtain ⟨t0, r0, rfl⟩ := List.exists_cons_of_ne_nil hne
  rw [RepXsF] at h6
  obtain ⟨x0, xs, rfl, h7, h6⟩ := h6
  obtain ⟨b0, rfl, a1⟩ := head_cell t0 r0 x0 h7
  have e0 : w.cell? ⟨g, 0, none⟩ = some (.pointer (some ⟨b0, 0, none⟩)) := h5 0 _ rfl
  have HR : Hid ((toTerm k (.list (t0 :: r0))).map sort = none) := by show _ = _; rw [hT]; rfl
  generalize (toTerm k (.list (t0 :: r0))).map sort = r at HR ⊢
  generalize headT (.list (t0 :: r0)) = hd at *
  have hbl : (⟨hd.toArray⟩ : ByteArray).toList = hd := by rw [ByteArray.toList_eq]
  rw [st_eq] at h1 a1
  have hex : ((hd == [108, 97, 109]) = true) → (hd == [97, 112, 112]) = false := by
    intro h
    rw [beq_iff_eq] at h
    subst h
    rfl
  have hpos : 1 ≤ (t0 :: r0).length := by simp
  generalize (t0 :: r0).length = L at *
  rw [← hbl] at hq hex
  generalize (⟨hd.toArray⟩ : ByteArray) = sl at *
  clear hI hT h5 h6 h7 hbl
  rcases hq with ⟨q1, q2⟩ | ⟨q1, q2⟩ | ⟨q1, q2, q3⟩
  all_goals
    first
    | have q4 := hex q1
    | skip
    clear hex
    go_enter Tryz.func112, Tryz.ntmps112
    go_wp2_with fail
    all_goals
      refine bodyPost_ret (v := .tuple #[.pointer none, .bool false]) ?_ rfl ?_
      · simp [results, Tryz.results112, go_sem]
      · exact PartPost.no HR.out (World.grownBy.refl w _) rfl

end Go.Proofs.YtopmkddmllmecaaGreatDoor

/-! The walk of fromBag. -/
namespace Go.Proofs.YtopmkddmllmecaaGreatDoor
open Go.RowKit Rt Go.Lib
open Go.ChangeMaps Go.MapKept Go.Maps Go.WideMaps

/-- The terms of a bag. -/
def bagOf (k : Nat) : Tree → Option (List Term)
  | .list (.atom a :: b) => if a = sM then toTerms k b else none
  | _ => none

/-- What reading a bag gives. -/
def BagRes (F : Nat → Prop) (w : World) (p m n N : Nat) (r : Option (List Term)) (e : Ending) (w' : World) : Prop :=
  w.grownBy w' (some m) ∧ match r with
    | some l => ∃ g c xs D n', e = .returned (.tuple #[.slice (some ⟨g, 0, none⟩) l.length c, .bool true]) ∧ n' ≤ n + N ∧ Cells w' g xs ∧ RepPsF (fun k => F k ∨ w.heap.size ≤ k) w' l xs ∧ Pool (fun k => F k ∨ w.heap.size ≤ k) w' p m n' D
    | none => e = .returned (.tuple #[.slice none 0 0, .bool false])

theorem BagRes.no {F : Nat → Prop} {w : World} {p m n k : Nat} {r : Option (List Term)} {e : Ending} {w' : World} (hr : r = none) (hg : w.grownBy w' (some m)) (he : e = .returned (.tuple #[.slice none 0 0, .bool false])) : BagRes F w p m n k r e w' := by
  subst hr
  exact ⟨hg, he⟩

theorem bagOf_no (k : Nat) (y : Tree) (h : (headT y == [109]) = false) : bagOf k y = none := by
  match y, h with
  | .atom a, _ => rfl
  | .list [], _ => rfl
  | .list (.list _ :: _), _ => rfl
  | .list (.atom a :: b), h =>
    rw [bagOf, if_neg]
    intro e
    subst e
    simp [headT, sM] at h

set_option maxHeartbeats 1600000 in
set_option maxRecDepth 100000 in
theorem fromBag_no (X F : Nat → Prop) (y : Tree) (v : Value) (k p m n N : Nat) (w : World) (hI : PartIn X w m y v k) (hq : (headT y == [109]) = false) :
    Calls Tryz.prog 128 #[.pointer (some ⟨p, 0, none⟩), v, .int .i64 k] w (BagRes F w p m n N ((bagOf k y).map sorts)) := by
  have HR : Hid ((bagOf k y).map sorts = none) := by show _ = _; rw [bagOf_no k y hq]; rfl
  have hr := hI.rep
  cases y with
  | atom a =>
    rw [RepXF] at hr
    obtain ⟨b, rfl, h1, h2, hb⟩ := hr
    generalize (bagOf k (.atom a)).map sorts = r at HR ⊢
    clear hI hq
    go_enter Tryz.func128, Tryz.ntmps128
    go_wp2_with fail
    refine bodyPost_ret (v := .tuple #[.slice none 0 0, .bool false]) ?_ rfl ?_
    · simp [results, Tryz.results128, go_sem]
    · exact BagRes.no HR.out (World.grownBy.refl w _) rfl
  | list l =>
    rw [RepXF] at hr
    obtain ⟨b, g, c, xs, rfl, h1, h2, h3, h4, h5, h6, hb, hg, hne⟩ := hr
    obtain ⟨t0, r0, rfl⟩ := List.exists_cons_of_ne_nil hne
    rw [RepXsF] at h6
    obtain ⟨x0, xs, rfl, h7, h6⟩ := h6
    obtain ⟨b0, rfl, a1⟩ := head_cell t0 r0 x0 h7
    have e0 : w.cell? ⟨g, 0, none⟩ = some (.pointer (some ⟨b0, 0, none⟩)) := h5 0 _ rfl
    generalize (bagOf k (.list (t0 :: r0))).map sorts = r at HR ⊢
    generalize headT (.list (t0 :: r0)) = hd at *
    have hbl : (⟨hd.toArray⟩ : ByteArray).toList = hd := by rw [ByteArray.toList_eq]
    rw [st_eq] at h1 a1
    have hpos : 1 ≤ (t0 :: r0).length := by simp
    generalize (t0 :: r0).length = L at *
    rw [← hbl] at hq
    generalize (⟨hd.toArray⟩ : ByteArray) = sl at *
    have hL : ((L : Int) == 0) = false := by simp; omega
    clear hI h5 h6 h7 hbl
    go_enter Tryz.func128, Tryz.ntmps128
    go_wp2_with fail
    all_goals
      refine bodyPost_ret (v := .tuple #[.slice none 0 0, .bool false]) ?_ rfl ?_
      · simp [results, Tryz.results128, go_sem]
      · exact BagRes.no HR.out (World.grownBy.refl w _) rfl

end Go.Proofs.YtopmkddmllmecaaGreatDoor
