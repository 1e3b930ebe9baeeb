/- rename, bind and open of the program's pool; its TermRename and TermBind. -/
import Derived.Test.YtomaknmemhpghaaGreatDoorSwC
import Derived.Test.YtomaknmemhpghaaGreatDoorImpZ
namespace Go.Proofs.YtomaknmemhpghaaGreatDoor
open Go.RowKit Rt Go.Lib
open Go.ChangeMaps Go.MapKept Go.Maps Go.WideMaps

theorem SwapPost.elder {F : Nat → Prop} {w w1 w2 : World} {p m n c : Nat} {t : Term} {e : Ending} (hg : w.grownBy w1 (some m)) (hm : ¬ F m) (hmw : m + 1 ≤ w.heap.size) (h : SwapPost F w1 p m n c t e w2) : SwapPost F w p m n c t e w2 := by
  obtain ⟨hg2, v, D, n', he, hn, h1, h2⟩ := h
  have hs := hg.size
  refine ⟨hg.trans hg2, v, D, n', he, hn, RepPF.wider h1 ?_, Pool.wider h2 ?_ ?_⟩
  · rintro k (hk | hk)
    · exact .inl hk
    · exact .inr (by omega)
  · rintro k (hk | hk)
    · exact .inl hk
    · exact .inr (by omega)
  · rintro (hk | hk)
    · exact hm hk
    · omega

set_option maxHeartbeats 800000 in
set_option maxRecDepth 100000 in
theorem rename_any (F : Nat → Prop) (t : Term) (a b : B) (v : Value) (p m n : Nat) (D : DataW Value) (w : World) (hb : isName b = true) (hz : size t ≤ 60) (hok : ok 0 t = true) (hst : sort t = t) (hn : n ≤ 800000) (hv : RepPF F w t v) (hP : Pool F w p m n D) :
    Calls Tryz.prog 83 #[.pointer (some ⟨p, 0, none⟩), v, .string ⟨a.toArray⟩, .string ⟨b.toArray⟩] w (SwapPost F w p m n (size t) (sort (swp (lRen a b) 0 t))) := by
  have hmw : m + 1 ≤ w.heap.size := hP.map.lt
  have HC : Hid (∀ W, Below w.heap.size w W → KeepR p w.heap.size (w.heap.size + 1) (w.heap.size + 2) a b W →
      Calls Tryz.prog 91 #[.pointer (some ⟨p, 0, none⟩), v, .int .i64 0, .func (.func 115) #[] #[.pointer (some ⟨w.heap.size + 1, 0, none⟩), .pointer (some ⟨w.heap.size, 0, none⟩), .pointer (some ⟨w.heap.size + 2, 0, none⟩)]] W (SwapPost F w p m n (size t) (sort (swp (lRen a b) 0 t)))) := by
    intro W hbW hK
    refine (swapSaid _ _ 0 0 p m _ (swapIn_ren 0 p m _ _ _ a b hb (by omega) (by omega) (by omega)) (lRen_ok a b hb 0) (size t) F t v 0 n D W (Nat.le_refl _) (by omega) hok hst (by omega) hK ?_ (hP.below hbW)).mono ?_
    · exact RepPF.move (fun k _ hk => hbW.block k hk) (fun _ h _ => h) _ _ hv
    · exact fun e w' h => SwapPost.elder (below_grown hbW _) hP.far hmw h
  generalize sort (swp (lRen a b) 0 t) = r at HC ⊢
  clear hv hP hok hst
  go_enter Tryz.func83, Tryz.ntmps83
  go_wp2_with (go_at_call 91; refine (HC.out _ (by go_grown) ⟨by go_simp, by go_simp, by go_simp⟩).mono ?_; rintro e w1 hq; obtain ⟨b1, rfl⟩ := hq.shape; have HQ := Lib.hid hq; clear hq)
  go_ret
  exact HQ.out

set_option maxHeartbeats 1600000 in
set_option maxRecDepth 100000 in
theorem bind_any (F : Nat → Prop) (t : Term) (a : B) (v : Value) (p m n : Nat) (D : DataW Value) (w : World) (hz : size t ≤ 60) (hok : ok 0 t = true) (hst : sort t = t) (hn : n ≤ 800000) (hv : RepPF F w t v) (hP : Pool F w p m n D) :
    Calls Tryz.prog 65 #[.pointer (some ⟨p, 0, none⟩), v, .string ⟨a.toArray⟩] w (SwapPost F w p m n (size t + 1) (sort (.lam (swp (lBind a) 0 t)))) := by
  have hmw : m + 1 ≤ w.heap.size := hP.map.lt
  obtain ⟨z1, z2⟩ := swp_ok (lBind a) 0 1 (lBind_ok a 0) t 0 (by omega) hok
  have hok' : ok 0 (sort (.lam (swp (lBind a) 0 t))) = true := by rw [ok_sort, ok]; exact z2
  have e2 : sort (.lam (swp (lBind a) 0 t)) = .lam (sort (swp (lBind a) 0 t)) := by rw [sort]
  have z3 := text_size _ _ hok'
  rw [e2] at hok' z3
  rw [Rt.size, size_sort, z1] at z3
  have HC : Hid (∀ W, Below w.heap.size w W → KeepB p w.heap.size (w.heap.size + 1) a W →
      Calls Tryz.prog 91 #[.pointer (some ⟨p, 0, none⟩), v, .int .i64 0, .func (.func 97) #[] #[.pointer (some ⟨w.heap.size + 1, 0, none⟩), .pointer (some ⟨w.heap.size, 0, none⟩)]] W (SwapPost F W p m n (size t) (sort (swp (lBind a) 0 t)))) := by
    intro W hbW hK
    refine (swapSaid _ _ 0 1 p m _ (swapIn_bind 0 p m _ _ a (by omega) (by omega)) (lBind_ok a 0) (size t) F t v 0 n D W (Nat.le_refl _) (by omega) hok hst (by omega) hK ?_ (hP.below hbW))
    exact RepPF.move (fun k _ hk => hbW.block k hk) (fun _ h _ => h) _ _ hv
  have HL : Hid (∀ (W w1 : World) (v1 : Value) (n1 : Nat) (D1 : DataW Value), Below w.heap.size w W → W.grownBy w1 (some m) → n1 ≤ n + size t → RepPF (fun q => F q ∨ W.heap.size ≤ q) w1 (sort (swp (lBind a) 0 t)) v1 → Pool (fun q => F q ∨ W.heap.size ≤ q) w1 p m n1 D1 →
      Calls Tryz.prog 96 #[.pointer (some ⟨p, 0, none⟩), v1] w1 (SwapPost F w p m n (size t + 1) (sort (.lam (swp (lBind a) 0 t))))) := by
    intro W w1 v1 n1 D1 hbW hg1 hn1 hr1 hp1
    have hs := hbW.size
    have hw : ∀ q, (F q ∨ W.heap.size ≤ q) → F q ∨ w.heap.size ≤ q := by
      rintro q (h | h)
      · exact .inl h
      · exact .inr (by omega)
    rw [e2]
    exact (lam_any _ (sort (swp (lBind a) 0 t)) 0 v1 p m n1 D1 w1 hok' (by omega) (by rw [size_sort]; omega) (by omega) (hp1.wider hw (by
      rintro (h | h)
      · exact hP.far h
      · omega)) (RepPF.wider hr1 hw)).mono (fun e w' hh => SwapPost.lam ((below_grown hbW (some m)).trans hg1) hP.far hmw (by omega) hh)
  generalize sort (.lam (swp (lBind a) 0 t)) = r at HL ⊢
  generalize size t + 1 = cc at HL ⊢
  clear hv hP hok hst hok' e2 z1 z2 z3
  go_enter Tryz.func65, Tryz.ntmps65
  go_wp2_with fail
  go_region_with (first
    | (go_at_call 91; refine (HC.out _ (by go_grown) ⟨by go_simp, by go_simp⟩).mono ?_; rintro e w1 ⟨hg1, v1, D1, n1, rfl, hn1, hr1, hp1⟩; have hx1 := grown_cell hg1 (c := w.heap.size) (j := 0) (x := .pointer (some ⟨p, 0, none⟩)) (by omega) (by go_simp); have HL1 := Lib.hid (HL.out _ w1 v1 n1 D1 (by go_grown) hg1 hn1 hr1 hp1); clear hg1 hr1 hp1)
    | (go_at_call 96; refine HL1.out.mono ?_; rintro e w2 hq; obtain ⟨b2, rfl⟩ := hq.shape; have HQ := Lib.hid hq; clear hq))
  all_goals
    go_wp2_with fail
    go_ret
    exact HQ.out

set_option maxHeartbeats 1600000 in
set_option maxRecDepth 100000 in
theorem open_any (F : Nat → Prop) (t : Term) (a : B) (v : Value) (p m n : Nat) (D : DataW Value) (w : World) (ha : isName a = true) (hz : size t ≤ 60) (hok : ok 1 t = true) (hst : sort t = t) (hn : n ≤ 800000) (hv : RepPF F w (.lam t) v) (hP : Pool F w p m n D) :
    Calls Tryz.prog 61 #[.pointer (some ⟨p, 0, none⟩), v, .string ⟨a.toArray⟩] w (SwapPost F w p m n (size t) (sort (swp (lOpen a) 0 t))) := by
  have hmw : m + 1 ≤ w.heap.size := hP.map.lt
  rw [RepPF] at hv
  obtain ⟨bb, pp, rfl, h6, ht, hb⟩ := hv
  obtain ⟨-, -, -, -, c4, -⟩ := h6
  have c4a := cell_alloc c4
  have hbb : bb + 1 ≤ w.heap.size := World.block_lt_of_cell? w _ c4
  have HC : Hid (∀ W, Below w.heap.size w W → KeepB p w.heap.size (w.heap.size + 1) a W →
      Calls Tryz.prog 91 #[.pointer (some ⟨p, 0, none⟩), pp, .int .i64 0, .func (.func 92) #[] #[.pointer (some ⟨w.heap.size, 0, none⟩), .pointer (some ⟨w.heap.size + 1, 0, none⟩)]] W (SwapPost F w p m n (size t) (sort (swp (lOpen a) 0 t)))) := by
    intro W hbW hK
    refine (swapSaid _ _ 1 0 p m _ (swapIn_open p m _ _ a ha (by omega) (by omega)) (lOpen_ok a ha) (size t) F t pp 0 n D W (Nat.le_refl _) (by omega) hok hst (by omega) hK ?_ (hP.below hbW)).mono ?_
    · exact RepPF.move (fun k _ hk => hbW.block k hk) (fun _ h _ => h) _ _ ht
    · exact fun e w' h => SwapPost.elder (below_grown hbW _) hP.far hmw h
  generalize sort (swp (lOpen a) 0 t) = r at HC ⊢
  have e1 : ∀ o o' : Obj, ((w.alloc o).alloc o').cell? ⟨bb, 5, none⟩ = some pp := fun o o' => by
    rw [World.cell?_of_block (a := ⟨bb, 5, none⟩) (Below.heap_alloc _ o' bb (by simp; omega))]; exact c4a o
  clear ht hP hok hst c4 c4a
  go_enter Tryz.func61, Tryz.ntmps61
  go_wp2_with fail
  go_region_with (go_at_call 91; refine (HC.out _ (by go_grown) ⟨by go_simp, by go_simp⟩).mono ?_; rintro e w1 hq; obtain ⟨b1, rfl⟩ := hq.shape; have HQ := Lib.hid hq; clear hq)
  all_goals
    go_wp2_with fail
    go_ret
    exact HQ.out

end Go.Proofs.YtomaknmemhpghaaGreatDoor
