/- The pool of terms: the walk of intern. The program's small functions on texts. The pool's lam. -/
import Derived.Test.YtopmkddmllmecaaGreatDoorImpA
import Derived.Test.YtopmkddmllmecaaGreatDoorMem
import Derived.Maps.OwnSet
import Derived.Maps.Views
import Derived.Handy
import Derived.StillTailTactics
import Derived.IntWalk
import Derived.Lib.MinMax
set_option linter.unusedSimpArgs false
set_option linter.unusedVariables false
/-! The pool of terms: the walk of intern. -/
namespace Go.Proofs.YtopmkddmllmecaaGreatDoor
open Go.RowKit Rt
open Go.ChangeMaps Go.MapKept Go.Maps Go.WideMaps

/-- How a pointer in the pool's map reads. -/
def RV (v : Value) : Option (DataW Value × List MemPlace) := some (.held v, [])

/-- The terms that a map holds by their texts. -/
def Known (F : Nat → Prop) (w : World) (D : DataW Value) : Prop :=
  ∀ k : B, Maps.has D (.string k) = true → ∃ t v j, k = text t ∧ ok j t = true ∧ RepPF F w t v ∧ D.atKey (.string k) (.held (.pointer none)) = .held v

theorem Known.move {F G : Nat → Prop} {w w' : World} {D : DataW Value} (ha : AlikeAt F w w') (hG : ∀ k, F k → k < w.heap.size → G k) (h : Known F w D) : Known G w' D := by
  intro k hk
  obtain ⟨t, v, j, h1, h2, h3, h4⟩ := h k hk
  exact ⟨t, v, j, h1, h2, RepPF.move ha hG _ _ h3, h4⟩

theorem ownsMap_same {w w' : World} {P : Program} {k : TypeId} {R : Value → Option (DataW Value × List MemPlace)} {m n : Nat} {D : DataW Value} (hm : w'.heap[m]? = w.heap[m]?) (h : w.ownsMap P k R m n D) : w'.ownsMap P k R m n D := by
  obtain ⟨es, clock, hb, r⟩ := h
  exact ⟨es, clock, hm.trans hb, r⟩

/-- The pools behind a pool, from one on. -/
def Links (F : Nat → Prop) (w : World) : List (Nat × Nat × Nat × DataW Value) → Value → Prop
  | [], v => v = .pointer none
  | (p, m, n, D) :: r, v => v = .pointer (some ⟨p, 0, none⟩) ∧ F p ∧ F m ∧ w.ownsMap Tryz.prog 9 RV m n D ∧ Known F w D ∧ ∃ u, Blk w p 81 #[.map (some m), u] ∧ Links F w r u

theorem Links.move {F G : Nat → Prop} {w w' : World} (ha : AlikeAt F w w') (hG : ∀ k, F k → k < w.heap.size → G k) : ∀ (L : List (Nat × Nat × Nat × DataW Value)) (v : Value), Links F w L v → Links G w' L v
  | [], _, h => h
  | (p, m, _, _) :: r, _, ⟨e, hp, hm, ho, hk, u, hb, hr⟩ =>
    ⟨e, hG p hp hb.lt, hG m hm ho.lt, ownsMap_same (ha m hm ho.lt) ho, hk.move ha hG, u, (ha p hp hb.lt).trans hb, Links.move ha hG r u hr⟩

theorem Links.shape {F : Nat → Prop} {w : World} : ∀ (L : List (Nat × Nat × Nat × DataW Value)) (v : Value), Links F w L v → (v = .pointer none ∧ L = []) ∨ ∃ b, v = .pointer (some ⟨b, 0, none⟩)
  | [], _, h => .inl ⟨h, rfl⟩
  | (p, _, _, _) :: _, _, h => .inr ⟨p, h.1⟩

/-- The pool: its struct, its map, the terms that this holds, and the pools behind it. -/
structure Pool (F : Nat → Prop) (w : World) (p m n : Nat) (D : DataW Value) : Prop where
  base : ∃ u L, Blk w p 81 #[.map (some m), u] ∧ Links F w L u
  map : w.ownsMap Tryz.prog 9 RV m n D
  isMap : Maps.IsMap D
  far : ¬ F m
  terms : Known F w D

theorem Pool.plt {F : Nat → Prop} {w : World} {p m n : Nat} {D : DataW Value} (h : Pool F w p m n D) : p < w.heap.size := by
  obtain ⟨u, L, hb, -⟩ := h.base
  exact hb.lt

/-- What is made in a pool. -/
def PoolPost (F : Nat → Prop) (w : World) (p m n : Nat) (t : Term) (e : Ending) (w' : World) : Prop :=
  w.grownBy w' (some m) ∧ ∃ v D, e = .returned v ∧ RepPF (fun k => F k ∨ w.heap.size ≤ k) w' t v ∧ Pool (fun k => F k ∨ w.heap.size ≤ k) w' p m n D

theorem map_lt {w : World} {P : Program} {k : TypeId} {R : Value → Option (DataW Value × List MemPlace)} {m n : Nat} {D : DataW Value} (h : w.ownsMap P k R m n D) : m < w.heap.size := h.lt

theorem pool_cell {F : Nat → Prop} {w : World} {p m n : Nat} {D : DataW Value} (h : Pool F w p m n D) : w.cell? ⟨p, 0, none⟩ = some (.map (some m)) := by
  obtain ⟨u, L, hb, -⟩ := h.base
  exact (hb.cell 0).trans rfl

theorem pool_ne {F : Nat → Prop} {w : World} {p m n : Nat} {D : DataW Value} (h : Pool F w p m n D) : p ≠ m := by
  intro e
  obtain ⟨es, clock, hb, _⟩ := h.map
  obtain ⟨u, L, h2, -⟩ := h.base
  unfold Blk at h2
  rw [e, hb] at h2
  cases h2

/-- The pool behind steps that leave its map alone. -/
theorem Pool.go {F G : Nat → Prop} {w w' : World} {p m n : Nat} {D : DataW Value} (h : Pool F w p m n D) (hp : w'.heap[p]? = w.heap[p]?) (hm : w'.heap[m]? = w.heap[m]?) (ha : AlikeAt F w w') (hG : ∀ k, F k → k < w.heap.size → G k) (hGm : ¬ G m) : Pool G w' p m n D := by
  obtain ⟨u, L, hb, hl⟩ := h.base
  exact ⟨⟨u, L, hp.trans hb, Links.move ha hG L u hl⟩, ownsMap_same hm h.map, h.isMap, hGm, h.terms.move ha hG⟩

theorem zeroTerm (w : World) : (zeroValue 74).run Tryz.prog w = .ok (.pointer none) w := by kernel_rfl

/-- The same, wherever they lie. -/
def Rows (F : Nat → Prop) (w : World) : List (Nat × Nat × Nat × DataW Value) → Value → Prop
  | [], v => v = .pointer none
  | (p, m, n, D) :: r, v => v = .pointer (some ⟨p, 0, none⟩) ∧ w.ownsMap Tryz.prog 9 RV m n D ∧ Known F w D ∧ ∃ u, Blk w p 81 #[.map (some m), u] ∧ Rows F w r u

theorem Links.rows {F : Nat → Prop} {w : World} : ∀ (L : List (Nat × Nat × Nat × DataW Value)) (v : Value), Links F w L v → Rows F w L v
  | [], _, h => h
  | (_, _, _, _) :: r, _, ⟨e, _, _, ho, hk, u, hb, hr⟩ => ⟨e, ho, hk, u, hb, Links.rows r u hr⟩

/-- What find gives. -/
def FindPost (F : Nat → Prop) (w : World) (D : DataW Value) (k : B) (e : Ending) (w' : World) : Prop :=
  w = w' ∧ ((∃ t b j, k = text t ∧ ok j t = true ∧ RepPF F w t (.pointer (some ⟨b, 0, none⟩)) ∧ e = .returned (.pointer (some ⟨b, 0, none⟩))) ∨ (Maps.has D (.string k) = false ∧ e = .returned (.pointer none)))

theorem RepPF.ptr {F : Nat → Prop} {w : World} (t : Term) (v : Value) (h : RepPF F w t v) : ∃ b, v = .pointer (some ⟨b, 0, none⟩) := by
  cases t with
  | nm s => rw [RepPF] at h; obtain ⟨b, hv, _⟩ := h; exact ⟨b, hv⟩
  | ix n => rw [RepPF] at h; obtain ⟨b, hv, _⟩ := h; exact ⟨b, hv⟩
  | lam t => rw [RepPF] at h; obtain ⟨b, p, hv, _⟩ := h; exact ⟨b, hv⟩
  | app t l => rw [RepPF] at h; obtain ⟨b, p, q, xs, hv, _⟩ := h; exact ⟨b, hv⟩

set_option maxHeartbeats 1600000 in
set_option maxRecDepth 100000 in
theorem find_any (F : Nat → Prop) (k : B) (p m n : Nat) (D : DataW Value) (w : World) (hlen : k.length ≤ 1000000) (hP : Pool F w p m n D) :
    Calls Tryz.prog 120 #[.pointer (some ⟨p, 0, none⟩), .string ⟨k.toArray⟩] w (FindPost F w D k) := by
  have hsz : (⟨k.toArray⟩ : ByteArray).size ≤ maxLen := by simp [ByteArray.size, maxLen]; omega
  have hkey : keyOf Tryz.prog 9 (.string ⟨k.toArray⟩) = some (.string k) := keyOf_string_mk Tryz.underlying9 hsz
  obtain ⟨u0, L0, hb0, hl0⟩ := hP.base
  have HR0 : Hid (Rows F w ((p, m, n, D) :: L0) (.pointer (some ⟨p, 0, none⟩))) := ⟨rfl, hP.map, hP.terms, u0, hb0, Links.rows L0 u0 hl0⟩
  have HK := Lib.hid hkey
  clear hP hb0 hl0 hkey hsz
  go_enter Tryz.func120, Tryz.ntmps120
  go_wp2_with fail
  go_loopg [5] (L0.length + 1) (fun g qv wr => w = wr ∧ ∃ L, g = L.length ∧ ((∃ b, qv = .pointer (some ⟨b, 0, none⟩)) ∨ qv = .pointer none) ∧ Hid (Rows F w L qv) ∧ Hid (L = (p, m, n, D) :: L0 ∨ Maps.has D (.string k) = false))
  case atStart => exact ⟨rfl, _, rfl, .inl ⟨p, rfl⟩, HR0.out, .inl rfl⟩
  case round =>
    obtain ⟨rfl, L, rfl, hsh, hR, hT⟩ := hrel
    rcases L with _ | ⟨⟨p', m', n', D'⟩, r⟩
    · have e : _ = _ := hR.out
      subst e
      clear hsh
      go_wp2_with fail
      go_ret
      refine ⟨rfl, .inr ⟨?_, rfl⟩⟩
      rcases hT.out with h | h
      · cases h
      · exact h
    · obtain ⟨e, ho, hk, u, hb, hr⟩ := hR.out
      subst e
      clear hsh
      have c0 : w.cell? ⟨p', 0, none⟩ = some (.map (some m')) := (hb.cell 0).trans rfl
      have c1 : w.cell? ⟨p', 1, none⟩ = some u := (hb.cell 1).trans rfl
      have hu : (∃ b, u = .pointer (some ⟨b, 0, none⟩)) ∨ u = .pointer none := by
        rcases r with _ | ⟨⟨p2, m2, n2, D2⟩, r2⟩
        · exact .inr hr
        · exact .inl ⟨p2, hr.1⟩
      obtain ⟨v, ps, hrun, hv⟩ := ho.look_ok (t := 79) (string_keyed Tryz.underlying9) Tryz.underlying79 (zeroTerm _) (zd := .held (.pointer none)) (zp := []) rfl HK.out
      have HV := Lib.hid hv
      have HKN := Lib.hid hk
      have HRR := Lib.hid hr
      clear hb ho hk hr hv
      cases hh : Maps.has D' (.string k)
      · rw [hh] at hrun
        have HN : Hid (Maps.has D (.string k) = false) := by
          show _ = _
          rcases hT.out with h | h
          · injection h with h _
            injection h with _ h
            injection h with _ h
            injection h with _ h
            rw [← h]; exact hh
          · exact h
        clear hh
        go_wp2_with fail
        go_roundg (r.length)
        case measure => simp
        case rel => exact ⟨rfl, r, rfl, hu, HRR.out, .inr HN.out⟩
      · rw [hh] at hrun
        obtain ⟨t, v', j', e1, e2, e3, e4⟩ := HKN.out _ hh
        have hv2 := HV.out
        rw [e4] at hv2
        have hvv : v = v' := by
          simp only [RV, Option.some.injEq, Prod.mk.injEq, DataW.held.injEq] at hv2
          exact hv2.1
        subst hvv
        obtain ⟨b, rfl⟩ := RepPF.ptr t v e3
        have HE : Hid (k = text t ∧ ok j' t = true ∧ RepPF F w t (.pointer (some ⟨b, 0, none⟩))) := ⟨e1, e2, e3⟩
        clear hh e1 e2 e3 e4 hv2
        go_wp2_with fail
        go_ret
        exact ⟨rfl, .inl ⟨t, b, j', HE.out.1, HE.out.2.1, HE.out.2.2, rfl⟩⟩

theorem intern_new (F : Nat → Prop) (T : Term) (j p m n : Nat) (D : DataW Value) (i : Nat) (fp q : Value) (w w2 : World) (hok : ok j T = true) (hP : Pool F w p m n D)
    (hbox : ∀ (G : Nat → Prop) (W : World) (b : Nat), Six W b (kindOf T) (text T) (size T) i (outer T) fp q → G b → (∀ k, F k → k < w.heap.size → G k) → AlikeAt F w W → RepPF G W T (.pointer (some ⟨b, 0, none⟩)))
    (hpw : p + 1 ≤ w.heap.size) (hmw : m + 1 ≤ w.heap.size) (hne : p ≠ m)
    (hx : w2.ownsMap Tryz.prog 9 RV m (n + 1) (D.put (.string (text T)) (.held (.pointer (some ⟨w.heap.size, 0, none⟩)))) ∧
      ((w.alloc (.cells #[.int .i64 (kindOf T), .string ⟨(text T).toArray⟩, .int .i64 (size T), .int .i64 i, .int .i64 (outer T), fp, q] 77)).drew).grownBy w2 (some m)) :
    PoolPost F w p m (n + 1) T (.returned (.pointer (some ⟨w.heap.size, 0, none⟩))) w2 := by
  obtain ⟨hown, hg⟩ := hx
  have hal : ∀ k, k < w.heap.size → k ≠ m → w2.heap[k]? = w.heap[k]? := by
    intro k hk hkm
    rw [hg.block k (by simp; omega) (by intro e; injection e with e; exact hkm e)]
    exact Below.heap_alloc w _ k hk
  have hsz : w.heap.size + 1 ≤ w2.heap.size := by have := hg.size; simpa using this
  have hbx : Blk w2 w.heap.size 77 #[.int .i64 (kindOf T), .string ⟨(text T).toArray⟩, .int .i64 (size T), .int .i64 i, .int .i64 (outer T), fp, q] := by
    unfold Blk
    rw [hg.block w.heap.size (by simp) (by intro e; injection e with e; omega)]
    exact Blk.new w 77 _
  have hsix : Six w2 w.heap.size (kindOf T) (text T) (size T) i (outer T) fp q :=
    ⟨(hbx.cell 0).trans rfl, (hbx.cell 1).trans rfl, (hbx.cell 2).trans rfl, (hbx.cell 3).trans rfl, (hbx.cell 5).trans rfl, (hbx.cell 6).trans rfl, ⟨_, _, hbx⟩, (hbx.cell 4).trans rfl⟩
  have hFm : ∀ k, F k → k ≠ m := fun k hk e => hP.far (e ▸ hk)
  have halF : AlikeAt F w w2 := fun k hk hk2 => hal k hk2 (hFm k hk)
  have hrep : RepPF (fun k => F k ∨ w.heap.size ≤ k) w2 T (.pointer (some ⟨w.heap.size, 0, none⟩)) := hbox _ _ _ hsix (.inr (Nat.le_refl _)) (fun k hk _ => .inl hk) halF
  refine ⟨⟨hg.os, hg.tape, hg.output, by omega, fun k hk hkm => hal k hk (fun e => hkm (by rw [e]))⟩, _, D.put (.string (text T)) (.held (.pointer (some ⟨w.heap.size, 0, none⟩))), rfl, hrep, ?_⟩
  obtain ⟨u0, L0, hb0, hl0⟩ := hP.base
  refine ⟨⟨u0, L0, (hal p (by omega) hne).trans hb0, Links.move halF (fun k hk _ => .inl hk) L0 u0 hl0⟩, hown, ?_, ?_, ?_⟩
  · obtain ⟨es, rfl⟩ := hP.isMap
    exact ⟨_, rfl⟩
  · rintro (h | h)
    · exact hP.far h
    · omega
  · intro k hk
    by_cases he : k = text T
    · subst he
      exact ⟨T, _, j, rfl, hok, hrep, Maps.atKey_put_same hP.isMap (by trivial) _ _⟩
    · have hkk : (Lit.string k) ≠ Lit.string (text T) := by intro e; injection e with e; exact he e
      rw [Maps.has_put_other hkk] at hk
      obtain ⟨t, v, j', e1, e2, e3, e4⟩ := hP.terms k hk
      exact ⟨t, v, j', e1, e2, RepPF.move halF (fun k hk _ => .inl hk) _ _ e3, by rw [Maps.atKey_put_other hkk]; exact e4⟩

set_option maxHeartbeats 1600000 in
set_option maxRecDepth 100000 in
theorem intern_any (F : Nat → Prop) (T : Term) (j p m n : Nat) (D : DataW Value) (i : Nat) (fp q : Value) (w : World) (hok : ok j T = true) (hlen : (text T).length ≤ 1000000) (hn : n < 1000000) (h1 : fp.oneCell' = true) (h2 : q.oneCell' = true)
    (hP : Pool F w p m n D)
    (hbox : ∀ (G : Nat → Prop) (W : World) (b : Nat), Six W b (kindOf T) (text T) (size T) i (outer T) fp q → G b → (∀ k, F k → k < w.heap.size → G k) → AlikeAt F w W → RepPF G W T (.pointer (some ⟨b, 0, none⟩))) :
    Calls Tryz.prog 104 #[.pointer (some ⟨p, 0, none⟩), .agg #[.int .i64 (kindOf T), st (text T), .int .i64 (size T), .int .i64 i, .int .i64 (outer T), fp, q]] w (PoolPost F w p m (n + 1) T) := by
  have hpc := pool_cell hP
  have hne := pool_ne hP
  have hpw : p + 1 ≤ w.heap.size := hP.plt
  have hmw : m + 1 ≤ w.heap.size := hP.map.lt
  have hsz : (⟨(text T).toArray⟩ : ByteArray).size ≤ maxLen := by simp [ByteArray.size, maxLen]; omega
  have hkey : keyOf Tryz.prog 9 (.string ⟨(text T).toArray⟩) = some (.string (text T)) := keyOf_string_mk Tryz.underlying9 hsz
  have hal0 : ∀ k, k < w.heap.size → (w.alloc (.cells #[.int .i64 (kindOf T), .string ⟨(text T).toArray⟩, .int .i64 (size T), .int .i64 i, .int .i64 (outer T), fp, q] 77)).heap[k]? = w.heap[k]? := fun k hk => Below.heap_alloc w _ k hk
  have hPa : Pool (fun k => F k ∧ k < w.heap.size) (w.alloc (.cells #[.int .i64 (kindOf T), .string ⟨(text T).toArray⟩, .int .i64 (size T), .int .i64 i, .int .i64 (outer T), fp, q] 77)) p m n D :=
    hP.go (hal0 p (by omega)) (hal0 m (by omega)) (fun k _ hk => hal0 k hk) (fun k hk hk2 => ⟨hk, hk2⟩) (fun h => hP.far h.1)
  have HFI := Lib.hid (find_any _ (text T) p m n D _ hlen hPa)
  have hbox6 : Blk (w.alloc (.cells #[.int .i64 (kindOf T), .string ⟨(text T).toArray⟩, .int .i64 (size T), .int .i64 i, .int .i64 (outer T), fp, q] 77)) w.heap.size 77 #[.int .i64 (kindOf T), .string ⟨(text T).toArray⟩, .int .i64 (size T), .int .i64 i, .int .i64 (outer T), fp, q] := Blk.new _ _ _
  have hpa := cell_alloc hpc
  obtain ⟨w2, hrun2, hown2, hg2⟩ := World.ownsMap.update (t := 79) (e := 74) (w := (w.alloc (.cells #[.int .i64 (kindOf T), .string ⟨(text T).toArray⟩, .int .i64 (size T), .int .i64 i, .int .i64 (outer T), fp, q] 77)).drew) ((hP.map.alloc _).drew) (string_keyed Tryz.underlying9) Tryz.underlying79 (by unfold maxLen; omega) hkey (val := .pointer (some ⟨w.heap.size, 0, none⟩)) (d := .held (.pointer (some ⟨w.heap.size, 0, none⟩))) (ps := []) rfl
  have HX2 := Lib.hid (And.intro hown2 hg2)
  clear hown2 hg2 hPa
  rw [st_eq]
  have HP := Lib.hid hP
  have HB := Lib.hid hbox
  have HBX := Lib.hid hbox6
  clear hP hbox hbox6 hkey hsz
  go_enter Tryz.func104, Tryz.ntmps104
  go_wp2_with fail
  refine HFI.out.mono ?_
  rintro e w1 ⟨rfl, hq⟩
  rcases hq with ⟨t, b, j', e1, e2, e3, rfl⟩ | ⟨-, rfl⟩
  · have ht : t = T := text_inj j' j t T e2 hok e1.symm
    subst ht
    have E3 := Lib.hid e3
    have HAL := Lib.hid hal0
    clear e1 e2 e3 hrun2 HX2 hal0
    go_wp2_with fail
    go_ret
    refine ⟨⟨rfl, rfl, rfl, by simp, fun k hk _ => HAL.out k hk⟩, _, D, rfl, RepPF.move (fun _ _ _ => rfl) (fun k hk _ => .inl hk.1) _ _ E3.out, ?_⟩
    have := HP.out.go (w' := w.alloc (.cells #[.int .i64 (kindOf t), .string ⟨(text t).toArray⟩, .int .i64 (size t), .int .i64 i, .int .i64 (outer t), fp, q] 77)) (G := fun k => F k ∨ w.heap.size ≤ k) (HAL.out p (by omega)) (HAL.out m (by omega)) (fun k _ hk => HAL.out k hk) (fun k hk _ => .inl hk) (by
      rintro (h | h)
      · exact HP.out.far h
      · omega)
    exact ⟨this.base, this.map.mono (Nat.le_succ _), this.isMap, this.far, this.terms⟩
  · clear hal0
    go_wp2_with fail
    go_region
    all_goals
      go_wp2_with fail
      go_ret
      exact intern_new F T j p m n D i fp q w w2 hok HP.out HB.out hpw hmw hne HX2.out

end Go.Proofs.YtopmkddmllmecaaGreatDoor

/-! The program's small functions on texts. -/
namespace Go.Proofs.YtopmkddmllmecaaGreatDoor
open Go.RowKit Rt

set_option maxHeartbeats 400000 in
theorem allDigits_any (s : ByteArray) (w : World) (hm : s.size ≤ maxLen) :
    Calls Tryz.prog 84 #[.string s] w fun e w' => e = .returned (.bool (allTo s s.size)) ∧ w = w' := by
  unfold maxLen at hm
  go_enter Tryz.func84, Tryz.ntmps84
  go_wp2
  go_loop [6] (fun i => ∃ k : Nat, k ≤ s.size ∧ i = .int .i64 k ∧ Hid (allTo s k = true)) (fun i => s.size - (intOf i).toNat)
  case atStart => exact ⟨0, by omega, rfl, rfl⟩
  case round =>
    obtain ⟨k, hk2, rfl, hd⟩ := hrel
    by_cases hlt : k < s.size
    · have HS := Lib.hid (allTo_succ s k hlt)
      have HD := Lib.hid (digB_int s[k])
      go_wp2
      all_goals first
        | (go_round
           case rel => exact ⟨k + 1, by omega, by go_num, by show _ = _; rw [HS.out, hd.out, HD.out]; simp; omega⟩
           case measure => simp [intOf]; omega)
        | (go_ret
           refine ⟨ret_bool ?_, rfl⟩
           rw [allTo_no s k hlt (by rw [HD.out, Bool.eq_false_iff]; simp; omega)])
    · go_wp2
      go_ret
      refine ⟨ret_bool ?_, rfl⟩
      have e : s.size = k := by omega
      rw [e]; exact hd.out.symm

theorem allTo_all (l : B) : allTo ⟨l.toArray⟩ (⟨l.toArray⟩ : ByteArray).size = l.all isDig := by
  unfold allTo
  rw [List.take_of_length_le (by simp [ByteArray.size])]

theorem name_cons (c : UInt8) (r : B) : isName (c :: r) = (decide ((r.length : Int) + 1 ≤ 3) && isLow c && r.all isDig) := by
  have : (decide ((r.length : Int) + 1 ≤ 3)) = decide (r.length ≤ 2) := by rw [decide_eq_decide]; omega
  rw [isName, this]
  cases isLow c <;> cases decide (r.length ≤ 2) <;> rfl

set_option maxHeartbeats 800000 in
set_option maxRecDepth 100000 in
theorem isName_cons (c : UInt8) (r : B) (w : World) (hm : (c :: r).length ≤ maxLen) :
    Calls Tryz.prog 57 #[.string ⟨(c :: r).toArray⟩] w fun e w' => e = .returned (.bool (isName (c :: r))) ∧ w = w' := by
  unfold maxLen at hm
  have hz : (⟨(c :: r).toArray⟩ : ByteArray).size = r.length + 1 := by simp [ByteArray.size]
  generalize hs : (⟨(c :: r).toArray⟩ : ByteArray) = s at hz
  have q0 : (s.toList == []) = false := by rw [← hs, ByteArray.toList_eq]; rfl
  have hl : s.data.toList = c :: r := by rw [← hs]
  have HN := Lib.hid (name_cons c r)
  have h0 : 0 < s.size := by omega
  have hc : s[0] = c := by subst hs; rfl
  have HL := Lib.hid (lowB_int c)
  have hs' := Lib.hid hs
  have hl' := Lib.hid hl
  clear hs hl
  go_enter Tryz.func57, Tryz.ntmps57
  have hx : allTo (s.extract 1 (r.length + 1)) (s.extract 1 (r.length + 1)).size = r.all isDig := by
    have : s.extract 1 (r.length + 1) = ⟨r.toArray⟩ := by
      apply ByteArray.ext
      apply Array.ext'
      rw [ByteArray.data_extract, Array.toList_extract, hl'.out]
      simp
    rw [this]
    exact allTo_all r
  have hm' : r.length + 1 ≤ 2 ^ 63 - 1 := hm
  have hxz : (s.extract 1 (r.length + 1)).size = r.length := by rw [ByteArray.size_extract]; omega
  have hxs : (s.extract 1 (r.length + 1)).size ≤ maxLen := by rw [hxz]; unfold maxLen; omega
  rw [hxz] at hx
  have HX := Lib.hid hx
  clear hx
  go_wp2_with (go_at_call 84; refine (allDigits_any _ _ hxs).mono ?_; rintro e w' ⟨rfl, rfl⟩)
  all_goals
    go_ret
    refine ⟨ret_bool ?_, rfl⟩
    rw [HN.out, HL.out]
    try rw [HX.out]
    rw [Bool.eq_iff_iff]; simp; try omega

set_option maxHeartbeats 800000 in
theorem isName_nil (w : World) :
    Calls Tryz.prog 57 #[.string ⟨([] : B).toArray⟩] w fun e w' => e = .returned (.bool false) ∧ w = w' := by
  generalize hs : (⟨([] : B).toArray⟩ : ByteArray) = s
  have q0 : (s.toList == []) = true := by rw [← hs, ByteArray.toList_eq]; rfl
  clear hs
  go_enter Tryz.func57, Tryz.ntmps57
  go_wp2_with fail
  go_ret
  exact ⟨rfl, rfl⟩

theorem isName_any (l : B) (w : World) (hm : l.length ≤ maxLen) :
    Calls Tryz.prog 57 #[st l] w fun e w' => e = .returned (.bool (isName l)) ∧ w = w' := by
  cases l with
  | nil => exact isName_nil w
  | cons c r => exact isName_cons c r w hm

theorem text_nm (s : B) : text (.nm s) = s := by simp [text, ofTerm, textT]
theorem text_ix (n : Nat) : text (.ix n) = dec n := by simp [text, ofTerm, textT]

theorem name_len (s : B) (h : isName s = true) : s.length ≤ 3 := by
  cases s with
  | nil => simp
  | cons c r =>
    simp only [isName, Bool.and_eq_true, decide_eq_true_eq] at h
    simp; omega

set_option maxHeartbeats 800000 in
set_option maxRecDepth 100000 in
theorem name_any (F : Nat → Prop) (s : B) (p m n : Nat) (D : DataW Value) (w : World) (hok : isName s = true) (hn : n < 1000000) (hP : Pool F w p m n D) :
    Calls Tryz.prog 145 #[.pointer (some ⟨p, 0, none⟩), st s] w (PoolPost F w p m (n + 1) (.nm s)) := by
  have hin := intern_any F (.nm s) 0 p m n D 0 (.pointer none) (.slice none 0 0) w hok (by have := name_len s hok; show (text (.nm s)).length ≤ _; rw [text_nm]; omega) hn rfl rfl hP (by
    intro G W b h6 hb _ _
    rw [RepPF]
    exact ⟨b, rfl, h6, hb⟩)
  rw [text_nm] at hin
  rw [st_eq] at hin ⊢
  have HI := Lib.hid hin
  clear hin
  go_enter Tryz.func145, Tryz.ntmps145
  go_wp2_with (go_at_call 104; refine (HI.out).mono ?_; rintro e w' ⟨hg, v, D', rfl, h1, h2⟩)
  go_ret
  exact ⟨hg, v, D', rfl, h1, h2⟩

end Go.Proofs.YtopmkddmllmecaaGreatDoor

/-! The pool's lam. -/
namespace Go.Proofs.YtopmkddmllmecaaGreatDoor
open Go.RowKit Rt

theorem RepPF.head {F : Nat → Prop} {w : World} (t : Term) (v : Value) (h : RepPF F w t v) : ∃ b i p l, v = .pointer (some ⟨b, 0, none⟩) ∧ Six w b (kindOf t) (text t) (size t) i (outer t) p l ∧ F b := by
  cases t with
  | nm s => rw [RepPF] at h; obtain ⟨b, hv, h1, h2⟩ := h; exact ⟨b, _, _, _, hv, (text_nm s).symm ▸ h1, h2⟩
  | ix n => rw [RepPF] at h; obtain ⟨b, hv, h1, h2⟩ := h; exact ⟨b, _, _, _, hv, (text_ix n).symm ▸ h1, h2⟩
  | lam t => rw [RepPF] at h; obtain ⟨b, p, hv, h1, _, h2⟩ := h; exact ⟨b, _, _, _, hv, h1, h2⟩
  | app t l => rw [RepPF] at h; obtain ⟨b, p, q, xs, hv, h1, _, _, _, h2⟩ := h; exact ⟨b, _, _, _, hv, h1, h2⟩

theorem text_lam (t : Term) : text (.lam t) = [40, 108, 97, 109, 32] ++ text t ++ [41] := by
  simp [text, ofTerm, textT, textL, sLam]

theorem Pool.drew {F : Nat → Prop} {w : World} {p m n : Nat} {D : DataW Value} (h : Pool F w p m n D) (k : Nat) : Pool F (w.drewN k) p m n D := by
  have := h.go (w' := w.drewN k) (G := F) rfl rfl (fun _ _ _ => rfl) (fun _ h _ => h) h.far
  exact this

theorem Pool.drew1 {F : Nat → Prop} {w : World} {p m n : Nat} {D : DataW Value} (h : Pool F w p m n D) : Pool F w.drew p m n D := by
  have := h.go (w' := w.drew) (G := F) rfl rfl (fun _ _ _ => rfl) (fun _ h _ => h) h.far
  exact this

theorem PoolPost.drew1 {F : Nat → Prop} {w : World} {p m n : Nat} {t : Term} {e : Ending} {w' : World} (h : PoolPost F w.drew p m n t e w') : PoolPost F w p m n t e w' := by
  obtain ⟨hg, r⟩ := h
  exact ⟨⟨hg.os, hg.tape, hg.output, hg.size, hg.block⟩, r⟩

theorem PoolPost.drew {F : Nat → Prop} {w : World} {p m n k : Nat} {t : Term} {e : Ending} {w' : World} (h : PoolPost F (w.drewN k) p m n t e w') : PoolPost F w p m n t e w' := by
  obtain ⟨hg, r⟩ := h
  exact ⟨⟨hg.os, hg.tape, hg.output, hg.size, hg.block⟩, r⟩

set_option maxHeartbeats 800000 in
set_option maxRecDepth 100000 in
theorem lam_any (F : Nat → Prop) (t : Term) (j : Nat) (v : Value) (p m n : Nat) (D : DataW Value) (w : World) (hok : ok j (.lam t) = true) (hlen : (text (.lam t)).length ≤ 1000000) (hsz : size t ≤ 1000000) (hn : n < 1000000)
    (hP : Pool F w p m n D) (hv : RepPF F w t v) :
    Calls Tryz.prog 85 #[.pointer (some ⟨p, 0, none⟩), v] w (PoolPost F w p m (n + 1) (.lam t)) := by
  obtain ⟨b, i, pp, ll, rfl, h6, hb⟩ := RepPF.head t v hv
  obtain ⟨c0, c1, c2, c3, c4, c5, -, c6⟩ := h6
  have hol : outer t ≤ 100 := (outer_le (j + 1) t (by rw [ok] at hok; exact hok)).2
  obtain ⟨oz, hoz⟩ : ∃ oz : Int, ((outer (.lam t) : Nat) : Int) = oz := ⟨_, rfl⟩
  have hin : Calls Tryz.prog 104 #[.pointer (some ⟨p, 0, none⟩), .agg #[.int .i64 2, .string (⟨#[40, 108, 97, 109, 32]⟩ ++ ⟨(text t).toArray⟩ ++ ⟨#[41]⟩), .int .i64 (1 + size t), .int .i64 0, .int .i64 oz, .pointer (some ⟨b, 0, none⟩), .slice none 0 0]] w.drew (PoolPost F w p m (n + 1) (.lam t)) := by
    have h := intern_any F (.lam t) j p m n D 0 (.pointer (some ⟨b, 0, none⟩)) (.slice none 0 0) w.drew hok hlen hn rfl rfl hP.drew1 (by
      intro G W b' h6 hb' hG hal
      rw [RepPF]
      exact ⟨b', _, rfl, h6, RepPF.move (w := w) (show AlikeAt F w W from hal) hG t _ hv, hb'⟩)
    have e : st (text (.lam t)) = .string (⟨#[40, 108, 97, 109, 32]⟩ ++ ⟨(text t).toArray⟩ ++ ⟨#[41]⟩) := by
      rw [text_lam, st_eq]
      congr 1
    have e2 : ((size (.lam t) : Nat) : Int) = 1 + (size t : Int) := by rw [size]; push_cast; rfl
    rw [e, e2, hoz] at h
    exact h.mono (fun e w' hh => PoolPost.drew1 hh)
  have hl : (text t).length + 6 ≤ 1000000 := by have := text_lam t; rw [this] at hlen; simp at hlen; omega
  have hbs : (⟨(text t).toArray⟩ : ByteArray).size = (text t).length := by simp [ByteArray.size]
  rw [st_eq] at c1
  have HI := Lib.hid hin
  clear hin hP hv hlen hok hn
  have hz0 : ∃ z : Int, (outer t : Int) = z := ⟨_, rfl⟩
  obtain ⟨z, hz⟩ := hz0
  have hoz2 : oz = max 0 (z - 1) := by rw [← hoz, outer]; omega
  rw [hz] at c6
  have z1 : 0 ≤ z := by omega
  have z2 : z ≤ 100 := by omega
  rw [hoz2] at HI
  clear hoz hz hol hoz2
  go_enter Tryz.func85, Tryz.ntmps85
  go_wp2_with fail
  refine wp_region_still_tail 20 (by kernel_rfl) (by kernel_rfl) ?_
  simp only [List.take_succ_cons, List.take_zero, List.drop_succ_cons, List.drop_zero]
  change wpStill _ _ (World.drew _) _ _ _
  have k1 : ¬ (9223372036854775807 < 5 + (text t).length) := by omega
  have k2 : ¬ (9223372036854775807 < 5 + (text t).length + 1) := by omega
  repeat still_step
  refine wpStill_nil ?_
  change wpList _ _ _ _ _ (World.drew _)
  go_wp2_with (go_at_call 104; refine HI.out.mono ?_; rintro e w' ⟨hg, v, D', rfl, h1, h2⟩; have HH := Lib.hid (And.intro hg (And.intro h1 h2)); clear hg h1 h2)
  go_ret
  exact ⟨HH.out.1, v, D', rfl, HH.out.2⟩

end Go.Proofs.YtopmkddmllmecaaGreatDoor
