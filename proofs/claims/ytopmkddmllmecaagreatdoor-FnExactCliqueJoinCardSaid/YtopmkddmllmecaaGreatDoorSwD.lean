/- rename, bind and open of the program's pool; its TermRename and TermBind. -/
import Derived.Test.YtopmkddmllmecaaGreatDoorSwC
import Derived.Test.YtopmkddmllmecaaGreatDoorImpZ
namespace Go.Proofs.YtopmkddmllmecaaGreatDoor
open Go.RowKit Rt Go.Lib
open Go.ChangeMaps Go.MapKept Go.Maps Go.WideMaps

theorem SwapPost.elder {F : Nat → Prop} {w w1 w2 : World} {p m n c : Nat} {t : Term} {e : Ending} (hg : w.grownBy w1 (some m)) (hm : ¬ F m) (hmw : m + 1 ≤ w.heap.size) (h : SwapPost F w1 p m n c t e w2) : SwapPost F w p m n c t e w2 := by
  obtain ⟨hg2, v, D, n', he, hn, h1, h2⟩ := h
  have hs := hg.size
  refine ⟨hg.trans hg2, v, D, n', he, hn, RepPF.wider h1 ?_, Pool.wider h2 ?_ ?_⟩
  · rintro k (hk | hk)
    · exact .inl hk
    · exact .inr (by omega)
  · rintro k (hk | hk)
    · exact .inl hk
    · exact .inr (by omega)
  · rintro (hk | hk)
    · exact hm hk
    · omega

set_option maxHeartbeats 1600000 in
set_option maxRecDepth 100000 in
theorem bind_any (F : Nat → Prop) (t : Term) (a : B) (v : Value) (p m n : Nat) (D : DataW Value) (w : World) (hz : size t ≤ 60) (hok : ok 0 t = true) (hst : sort t = t) (hn : n ≤ 800000) (hv : RepPF F w t v) (hP : Pool F w p m n D) :
    Calls Tryz.prog 59 #[.pointer (some ⟨p, 0, none⟩), v, .string ⟨a.toArray⟩] w (SwapPost F w p m n (size t + 1) (sort (.lam (swp (lBind a) 0 t)))) := by
  have hmw : m + 1 ≤ w.heap.size := hP.map.lt
  obtain ⟨z1, z2⟩ := swp_ok (lBind a) 0 1 (lBind_ok a 0) t 0 (by omega) hok
  have hok' : ok 0 (sort (.lam (swp (lBind a) 0 t))) = true := by rw [ok_sort, ok]; exact z2
  have e2 : sort (.lam (swp (lBind a) 0 t)) = .lam (sort (swp (lBind a) 0 t)) := by rw [sort]
  have z3 := text_size _ _ hok'
  rw [e2] at hok' z3
  rw [Rt.size, size_sort, z1] at z3
  have HC : Hid (∀ W, Below w.heap.size w W → KeepB p w.heap.size (w.heap.size + 1) a W →
      Calls Tryz.prog 86 #[.pointer (some ⟨p, 0, none⟩), v, .int .i64 0, .func (.func 87) #[] #[.pointer (some ⟨w.heap.size + 1, 0, none⟩), .pointer (some ⟨w.heap.size, 0, none⟩)]] W (SwapPost F W p m n (size t) (sort (swp (lBind a) 0 t)))) := by
    intro W hbW hK
    refine (swapSaid _ _ 0 1 p m _ (swapIn_bind 0 p m _ _ a (by omega) (by omega)) (lBind_ok a 0) (size t) F t v 0 n D W (Nat.le_refl _) (by omega) hok hst (by omega) hK ?_ (hP.below hbW))
    exact RepPF.move (fun k _ hk => hbW.block k hk) (fun _ h _ => h) _ _ hv
  have HL : Hid (∀ (W w1 : World) (v1 : Value) (n1 : Nat) (D1 : DataW Value), Below w.heap.size w W → W.grownBy w1 (some m) → n1 ≤ n + size t → RepPF (fun q => F q ∨ W.heap.size ≤ q) w1 (sort (swp (lBind a) 0 t)) v1 → Pool (fun q => F q ∨ W.heap.size ≤ q) w1 p m n1 D1 →
      Calls Tryz.prog 85 #[.pointer (some ⟨p, 0, none⟩), v1] w1 (SwapPost F w p m n (size t + 1) (sort (.lam (swp (lBind a) 0 t))))) := by
    intro W w1 v1 n1 D1 hbW hg1 hn1 hr1 hp1
    have hs := hbW.size
    have hw : ∀ q, (F q ∨ W.heap.size ≤ q) → F q ∨ w.heap.size ≤ q := by
      rintro q (h | h)
      · exact .inl h
      · exact .inr (by omega)
    rw [e2]
    exact (lam_any _ (sort (swp (lBind a) 0 t)) 0 v1 p m n1 D1 w1 hok' (by omega) (by rw [size_sort]; omega) (by omega) (hp1.wider hw (by
      rintro (h | h)
      · exact hP.far h
      · omega)) (RepPF.wider hr1 hw)).mono (fun e w' hh => SwapPost.lam ((below_grown hbW (some m)).trans hg1) hP.far hmw (by omega) hh)
  generalize sort (.lam (swp (lBind a) 0 t)) = r at HL ⊢
  generalize size t + 1 = cc at HL ⊢
  clear hv hP hok hst hok' e2 z1 z2 z3
  go_enter Tryz.func59, Tryz.ntmps59
  go_wp2_with fail
  go_region_with (first
    | (go_at_call 86; refine (HC.out _ (by go_grown) ⟨by go_simp, by go_simp⟩).mono ?_; rintro e w1 ⟨hg1, v1, D1, n1, rfl, hn1, hr1, hp1⟩; have hx1 := grown_cell hg1 (c := w.heap.size) (j := 0) (x := .pointer (some ⟨p, 0, none⟩)) (by omega) (by go_simp); have HL1 := Lib.hid (HL.out _ w1 v1 n1 D1 (by go_grown) hg1 hn1 hr1 hp1); clear hg1 hr1 hp1)
    | (go_at_call 85; refine HL1.out.mono ?_; rintro e w2 hq; obtain ⟨b2, rfl⟩ := hq.shape; have HQ := Lib.hid hq; clear hq))
  all_goals
    go_wp2_with fail
    go_ret
    exact HQ.out

end Go.Proofs.YtopmkddmllmecaaGreatDoor
