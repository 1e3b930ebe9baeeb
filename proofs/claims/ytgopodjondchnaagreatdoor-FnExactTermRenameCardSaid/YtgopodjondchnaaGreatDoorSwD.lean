/- rename, bind and open of the program's pool; its TermRename and TermBind. -/
import Derived.Test.YtgopodjondchnaaGreatDoorSwC
import Derived.Test.YtgopodjondchnaaGreatDoorImpZ
namespace Go.Proofs.YtgopodjondchnaaGreatDoor
open Go.RowKit Rt Go.Lib
open Go.ChangeMaps Go.MapKept Go.Maps Go.WideMaps

theorem SwapPost.elder {F : Nat → Prop} {w w1 w2 : World} {p m n c : Nat} {t : Term} {e : Ending} (hg : w.grownBy w1 (some m)) (hm : ¬ F m) (hmw : m + 1 ≤ w.heap.size) (h : SwapPost F w1 p m n c t e w2) : SwapPost F w p m n c t e w2 := by
  obtain ⟨hg2, v, D, n', he, hn, h1, h2⟩ := h
  have hs := hg.size
  refine ⟨hg.trans hg2, v, D, n', he, hn, RepPF.wider h1 ?_, Pool.wider h2 ?_ ?_⟩
  · rintro k (hk | hk)
    · exact .inl hk
    · exact .inr (by omega)
  · rintro k (hk | hk)
    · exact .inl hk
    · exact .inr (by omega)
  · rintro (hk | hk)
    · exact hm hk
    · omega

set_option maxHeartbeats 800000 in
set_option maxRecDepth 100000 in
theorem rename_any (F : Nat → Prop) (t : Term) (a b : B) (v : Value) (p m n : Nat) (D : DataW Value) (w : World) (hb : isName b = true) (hz : size t ≤ 60) (hok : ok 0 t = true) (hst : sort t = t) (hn : n ≤ 800000) (hv : RepPF F w t v) (hP : Pool F w p m n D) :
    Calls Tryz.prog 25 #[.pointer (some ⟨p, 0, none⟩), v, .string ⟨a.toArray⟩, .string ⟨b.toArray⟩] w (SwapPost F w p m n (size t) (sort (swp (lRen a b) 0 t))) := by
  have hmw : m + 1 ≤ w.heap.size := hP.map.lt
  have HC : Hid (∀ W, Below w.heap.size w W → KeepR p w.heap.size (w.heap.size + 1) (w.heap.size + 2) a b W →
      Calls Tryz.prog 40 #[.pointer (some ⟨p, 0, none⟩), v, .int .i64 0, .func (.func 41) #[] #[.pointer (some ⟨w.heap.size + 1, 0, none⟩), .pointer (some ⟨w.heap.size, 0, none⟩), .pointer (some ⟨w.heap.size + 2, 0, none⟩)]] W (SwapPost F w p m n (size t) (sort (swp (lRen a b) 0 t)))) := by
    intro W hbW hK
    refine (swapSaid _ _ 0 0 p m _ (swapIn_ren 0 p m _ _ _ a b hb (by omega) (by omega) (by omega)) (lRen_ok a b hb 0) (size t) F t v 0 n D W (Nat.le_refl _) (by omega) hok hst (by omega) hK ?_ (hP.below hbW)).mono ?_
    · exact RepPF.move (fun k _ hk => hbW.block k hk) (fun _ h _ => h) _ _ hv
    · exact fun e w' h => SwapPost.elder (below_grown hbW _) hP.far hmw h
  generalize sort (swp (lRen a b) 0 t) = r at HC ⊢
  clear hv hP hok hst
  go_enter Tryz.func25, Tryz.ntmps25
  go_wp2_with (go_at_call 40; refine (HC.out _ (by go_grown) ⟨by go_simp, by go_simp, by go_simp⟩).mono ?_; rintro e w1 hq; obtain ⟨b1, rfl⟩ := hq.shape; have HQ := Lib.hid hq; clear hq)
  go_ret
  exact HQ.out

end Go.Proofs.YtgopodjondchnaaGreatDoor
