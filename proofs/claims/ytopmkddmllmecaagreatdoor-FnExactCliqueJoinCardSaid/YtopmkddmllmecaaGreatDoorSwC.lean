/- The leaves of the program's swap: rename, bind, open. -/
import Derived.Test.YtopmkddmllmecaaGreatDoorSwB
namespace Go.Proofs.YtopmkddmllmecaaGreatDoor
open Go.RowKit Rt Go.Lib
open Go.ChangeMaps Go.MapKept Go.Maps Go.WideMaps

/-- A name is made in a pool, in a world in which nothing that was there has turned. -/
theorem name_later (F : Nat → Prop) (s : B) (p m n : Nat) (D : DataW Value) (w : World) (hok : isName s = true) (hn : n < 1000000) (hP : Pool F w p m n D) (W : World) (hb : Below w.heap.size w W) :
    Calls Tryz.prog 145 #[.pointer (some ⟨p, 0, none⟩), .string ⟨s.toArray⟩] W (SwapPost F w p m n 1 (.nm s)) := by
  have h := name_any F s p m n D W hok hn (hP.go (hb.block p hP.plt) (hb.block m hP.map.lt) (fun k _ hk => hb.block k hk) (fun _ h _ => h) hP.far)
  exact h.mono (fun e w' hh => SwapPost.of (Nat.le_refl _) (PoolPost.elder ⟨hb.os, hb.tape, hb.output, hb.size, fun k hk _ => hb.block k hk⟩ hP.far hP.map.lt hh))

theorem index_later (F : Nat → Prop) (i p m n : Nat) (D : DataW Value) (w : World) (hi : i < 100) (hn : n < 1000000) (hP : Pool F w p m n D) (W : World) (hb : Below w.heap.size w W) :
    Calls Tryz.prog 88 #[.pointer (some ⟨p, 0, none⟩), .int .i64 i] W (SwapPost F w p m n 1 (.ix i)) := by
  have h := index_any F i (i + 1) p m n D W hi (by simp [ok]; omega) hn (hP.go (hb.block p hP.plt) (hb.block m hP.map.lt) (fun k _ hk => hb.block k hk) (fun _ h _ => h) hP.far)
  exact h.mono (fun e w' hh => SwapPost.of (Nat.le_refl _) (PoolPost.elder ⟨hb.os, hb.tape, hb.output, hb.size, fun k hk _ => hb.block k hk⟩ hP.far hP.map.lt hh))

/-- What the captured variables of rename hold. -/
def KeepR (p c0 c2 c3 : Nat) (a b : B) (w : World) : Prop :=
  w.cell? ⟨c0, 0, none⟩ = some (.pointer (some ⟨p, 0, none⟩)) ∧ w.cell? ⟨c2, 0, none⟩ = some (.string ⟨a.toArray⟩) ∧ w.cell? ⟨c3, 0, none⟩ = some (.string ⟨b.toArray⟩)

theorem KeepR.go {p m c0 c2 c3 : Nat} {a b : B} (h0 : c0 ≠ m) (h2 : c2 ≠ m) (h3 : c3 ≠ m) (w w' : World) (h : KeepR p c0 c2 c3 a b w) (hg : w.grownBy w' (some m)) : KeepR p c0 c2 c3 a b w' :=
  ⟨grown_cell hg h0 h.1, grown_cell hg h2 h.2.1, grown_cell hg h3 h.2.2⟩

/-- What the captured variables of bind hold. -/
def KeepB (p c0 c2 : Nat) (a : B) (w : World) : Prop :=
  w.cell? ⟨c0, 0, none⟩ = some (.pointer (some ⟨p, 0, none⟩)) ∧ w.cell? ⟨c2, 0, none⟩ = some (.string ⟨a.toArray⟩)

theorem KeepB.go {p m c0 c2 : Nat} {a : B} (h0 : c0 ≠ m) (h2 : c2 ≠ m) (w w' : World) (h : KeepB p c0 c2 a w) (hg : w.grownBy w' (some m)) : KeepB p c0 c2 a w' :=
  ⟨grown_cell hg h0 h.1, grown_cell hg h2 h.2⟩

set_option maxHeartbeats 800000 in
set_option maxRecDepth 100000 in
theorem bind_nm (p m c0 c2 : Nat) (a : B) (F : Nat → Prop) (s : B) (k n : Nat) (v : Value) (D : DataW Value) (w : World) (hK : KeepB p c0 c2 a w) (hk : k < 100) (hn : n < 1000000) (hv : RepPF F w (.nm s) v) (hP : Pool F w p m n D) :
    Calls Tryz.prog 87 #[v, .int .i64 k, .pointer (some ⟨c2, 0, none⟩), .pointer (some ⟨c0, 0, none⟩)] w (SwapPost F w p m n 1 (lBind a k (.nm s))) := by
  have HV := Lib.hid hv
  have HP := Lib.hid hP
  obtain ⟨k0, k2⟩ := hK
  rw [RepPF] at hv
  obtain ⟨bb, rfl, h6, -⟩ := hv
  obtain ⟨d0, d1, -⟩ := h6
  rw [st_eq] at d1
  have d0' : w.cell? ⟨bb, 0, none⟩ = some (.int .i64 0) := d0
  have HN := Lib.hid (index_later F k p m n D w hk hn hP)
  by_cases h : s = a
  · have HR : Hid (lBind a k (.nm s) = .ix k) := by show _ = _; simp [lBind, h]
    generalize lBind a k (.nm s) = r at HR ⊢
    have hq1 : (s == a) = true := by simp [h]
    have hq2 : (s != a) = false := by simp [h]
    clear hP d0 h
    go_enter Tryz.func87, Tryz.ntmps87
    go_wp2_with fail
    go_region
    all_goals
      go_wp2_with (go_at_call 88; refine (HN.out _ (by go_grown)).mono ?_; rintro e w1 hq; obtain ⟨b1, rfl⟩ := hq.shape; have HQ := Lib.hid hq; clear hq)
      go_ret
      rw [HR.out]
      exact HQ.out
  · have HR : Hid (lBind a k (.nm s) = .nm s) := by show _ = _; simp [lBind, h]
    generalize lBind a k (.nm s) = r at HR ⊢
    have hq1 : (s == a) = false := by simpa using h
    have hq2 : (s != a) = true := by simpa using h
    clear hP d0 h HN
    go_enter Tryz.func87, Tryz.ntmps87
    go_wp2_with fail
    go_region
    all_goals
      go_wp2_with fail
      go_ret
      rw [HR.out]
      exact SwapPost.same (by go_grown) HV.out HP.out

set_option maxHeartbeats 800000 in
set_option maxRecDepth 100000 in
theorem bind_ix (p m c0 c2 : Nat) (F : Nat → Prop) (i k n : Nat) (v : Value) (D : DataW Value) (w : World) (hv : RepPF F w (.ix i) v) (hP : Pool F w p m n D) :
    Calls Tryz.prog 87 #[v, .int .i64 k, .pointer (some ⟨c2, 0, none⟩), .pointer (some ⟨c0, 0, none⟩)] w (SwapPost F w p m n 1 (.ix i)) := by
  have HV := Lib.hid hv
  have HP := Lib.hid hP
  rw [RepPF] at hv
  obtain ⟨bb, rfl, h6, -⟩ := hv
  obtain ⟨d0, -⟩ := h6
  have d0' : w.cell? ⟨bb, 0, none⟩ = some (.int .i64 1) := d0
  clear hP d0
  go_enter Tryz.func87, Tryz.ntmps87
  go_wp2_with fail
  go_region
  all_goals
    go_wp2_with fail
    go_ret
    exact SwapPost.same (by go_grown) HV.out HP.out

theorem swap_leaf_bind (p m c0 c2 : Nat) (F : Nat → Prop) (t r : Term) (k n : Nat) (v : Value) (w : World) (hs : size t = 1) (hv : RepPF F w t v)
    (h : Calls Tryz.prog 87 #[v, .int .i64 k, .pointer (some ⟨c2, 0, none⟩), .pointer (some ⟨c0, 0, none⟩)] w (SwapPost F w p m n 1 r)) :
    Calls Tryz.prog 86 #[.pointer (some ⟨p, 0, none⟩), v, .int .i64 k, .func (.func 87) #[] #[.pointer (some ⟨c2, 0, none⟩), .pointer (some ⟨c0, 0, none⟩)]] w (SwapPost F w p m n 1 r) := by
  obtain ⟨b, i, pp, l, rfl, h6, -⟩ := RepPF.head t v hv
  obtain ⟨d0, -⟩ := h6
  have hkd : kindOf t ≤ 1 := by
    cases t with
    | nm s => exact Nat.zero_le _
    | ix n => exact Nat.le_refl _
    | lam t => have := size_pos t; rw [Rt.size] at hs; omega
    | app t b => have := size_pos t; rw [Rt.size] at hs; omega
  generalize kindOf t = kd at d0 hkd
  have H := Lib.hid h
  have hk2 : ((kd : Int) == 2) = false := by simp; omega
  have hk3 : ((kd : Int) == 3) = false := by simp; omega
  clear hv h hs
  go_enter Tryz.func86, Tryz.ntmps86
  go_wp2_with (go_at_call 87; refine H.out.mono ?_; rintro e w1 hq; obtain ⟨b1, rfl⟩ := hq.shape; have HQ := Lib.hid hq; clear hq)
  go_ret
  exact HQ.out

theorem swapIn_bind (a0 p m c0 c2 : Nat) (a : B) (h0 : c0 ≠ m) (h2 : c2 ≠ m) :
    SwapIn (.func (.func 87) #[] #[.pointer (some ⟨c2, 0, none⟩), .pointer (some ⟨c0, 0, none⟩)]) (lBind a) a0 p m (KeepB p c0 c2 a) where
  keep := fun w w' h hg => KeepB.go h0 h2 w w' h hg
  nm := fun F s k n v D w hK hk _ hn hv hP => swap_leaf_bind p m c0 c2 F (.nm s) _ k n v w rfl hv (bind_nm p m c0 c2 a F s k n v D w hK hk hn hv hP)
  ix := fun F i k n v D w _ _ _ _ _ hv hP => swap_leaf_bind p m c0 c2 F (.ix i) _ k n v w rfl hv (bind_ix p m c0 c2 F i k n v D w hv hP)

end Go.Proofs.YtopmkddmllmecaaGreatDoor
