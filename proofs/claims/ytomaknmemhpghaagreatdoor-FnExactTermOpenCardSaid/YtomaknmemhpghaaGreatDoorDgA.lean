/- The walks of the program's countNames and degrees. -/
import Derived.Test.YtomaknmemhpghaaGreatDoorImpZ
import Derived.Test.YtomaknmemhpghaaGreatDoorPureE
import Derived.Maps.OwnOps
namespace Go.Proofs.YtomaknmemhpghaaGreatDoor
open Go.RowKit Rt Go.Lib
open Go.ChangeMaps Go.MapKept Go.Maps Go.WideMaps

/-- A map that counts how often each text is in a list. -/
structure Cnt (w : World) (m n : Nat) (D : DataW Value) (l : List B) : Prop where
  map : w.ownsMap Tryz.prog 9 (plainElem Tryz.prog 3) m n D
  isMap : Maps.IsMap D
  val : ∀ s : B, D.atKey (.string s) (.lit (.int .i64 0)) = .lit (.int .i64 (l.count s))
  has : ∀ s : B, Maps.has D (.string s) = decide (s ∈ l)
  len : l.length ≤ n

theorem Cnt.kept {w w' : World} {m n : Nat} {D : DataW Value} {l : List B} (h : Cnt w m n D l) (hb : Below w.heap.size w w') : Cnt w' m n D l :=
  ⟨h.map.kept (row := none) ⟨hb.os, hb.tape, hb.output, hb.size, fun k hk _ => hb.block k hk⟩ (by simp), h.isMap, h.val, h.has, h.len⟩

theorem Cnt.more {w : World} {m n n' : Nat} {D : DataW Value} {l : List B} (h : Cnt w m n D l) (hn : n ≤ n') : Cnt w m n' D l :=
  ⟨h.map.mono hn, h.isMap, h.val, h.has, Nat.le_trans h.len hn⟩

/-- One text more. -/
theorem Cnt.one {w w' : World} {m n : Nat} {D : DataW Value} {l : List B} (h : Cnt w m n D l) (s : B) (hm : w'.ownsMap Tryz.prog 9 (plainElem Tryz.prog 3) m (n + 1) (D.put (.string s) (.lit (.int .i64 ((l.count s : Nat) + 1))))) :
    Cnt w' m (n + 1) (D.put (.string s) (.lit (.int .i64 ((l.count s : Nat) + 1)))) (l ++ [s]) := by
  refine ⟨hm, ?_, ?_, ?_, by have := h.len; simp; omega⟩
  · obtain ⟨es, rfl⟩ := h.isMap
    exact ⟨_, rfl⟩
  · intro x
    by_cases e : x = s
    · subst e
      rw [Maps.atKey_put_same h.isMap (by trivial)]
      simp
    · have hkk : (Lit.string x) ≠ Lit.string s := by intro e'; injection e' with e'; exact e e'
      rw [Maps.atKey_put_other hkk, h.val x]
      have : ([s] : List B).count x = 0 := by simp [Ne.symm e]
      rw [List.count_append, this]
      rfl
  · intro x
    by_cases e : x = s
    · subst e
      rw [Maps.has_put_same h.isMap (by trivial)]
      simp
    · have hkk : (Lit.string x) ≠ Lit.string s := by intro e'; injection e' with e'; exact e e'
      rw [Maps.has_put_other hkk, h.has x]
      simp [e]

/-- What countNames does. -/
def CntPost (w : World) (m n : Nat) (l : List B) (e : Ending) (w' : World) : Prop :=
  e = .returned (.tuple #[]) ∧ w.grownBy w' (some m) ∧ ∃ D, Cnt w' m n D l

theorem zero_int (w : World) : (zeroValue 3).run Tryz.prog w = .ok (.int .i64 0) w := by kernel_rfl

theorem alike_grown {F : Nat → Prop} {w w' : World} {m : Nat} (hg : w.grownBy w' (some m)) (hF : ¬ F m) : AlikeAt F w w' := fun k hk hk2 => hg.block k hk2 (by intro e; injection e with e; exact hF (e ▸ hk))

set_option maxHeartbeats 1600000 in
set_option maxRecDepth 100000 in
theorem count_nm (F : Nat → Prop) (s : B) (v : Value) (m n : Nat) (D : DataW Value) (l : List B) (w : World) (hn : n < 1000000) (hF : ¬ F m) (hs : s.length ≤ 1000000) (hv : RepPF F w (.nm s) v) (hC : Cnt w m n D l) :
    Calls Tryz.prog 99 #[v, .map (some m)] w (CntPost w m (n + 1) (l ++ [s])) := by
  rw [RepPF] at hv
  obtain ⟨b, rfl, h6, hb⟩ := hv
  obtain ⟨c0, c1, -, -, c4, c5, -⟩ := h6
  have c0' : w.cell? ⟨b, 0, none⟩ = some (.int .i64 0) := c0
  rw [st_eq] at c1
  have C4 := Lib.hid c4
  have C5 := Lib.hid c5
  have HB := Lib.hid hb
  have hsz : (⟨s.toArray⟩ : ByteArray).size ≤ maxLen := by simp [ByteArray.size, maxLen]; omega
  have hkey := Lib.hid (keyOf_string_mk (P := Tryz.prog) Tryz.underlying9 hsz)
  have HC := Lib.hid hC
  have HF := Lib.hid hF
  have HV := Lib.hid (hC.val s)
  have hcl : l.count s ≤ 1000000 := by have := List.count_le_length (a := s) (l := l); have := hC.len; omega
  clear c0 c4 c5 hC hb hsz hF
  go_enter Tryz.func99, Tryz.ntmps99
  go_wp2_with (first
    | (at_lookup; refine wpList_lookup_own_int _ rfl _ _ 71 rfl 9 3 .i64 (string_keyed Tryz.underlying9) Tryz.underlying71 Tryz.underlying3 (zero_int _) m n _ rfl HC.out.map _ _ rfl hkey.out ?_; intro c hat hwc; obtain rfl : c = ((l.count s : Nat) : Int) := (by have h1 := HV.out.symm.trans hat; injection h1 with h1; injection h1 with _ h1; exact h1.symm); clear hat hwc)
    | (at_mapUpdate; refine wpList_mapUpdate_own _ rfl _ _ _ 71 rfl 9 3 (string_keyed Tryz.underlying9) Tryz.underlying71 _ m n _ rfl HC.out.map (by unfold maxLen; omega) _ _ _ rfl rfl hkey.out _ [] (plainElem_int Tryz.underlying3 (WalkArith.wf_i64 (by omega))) ?_; intro w1 hown1 hgrow1; have HG := Lib.hid hgrow1; have HO := Lib.hid hown1; have d4 := (alike_grown hgrow1 HF.out).cell HB.out C4.out; have d5 := (alike_grown hgrow1 HF.out).cell HB.out C5.out; clear hown1 hgrow1))
  go_loopw [34] (fun iv wr => iv = .int .i64 0 ∧ wr = w1) (fun _ _ => 0)
  case atStart => exact ⟨rfl, rfl⟩
  case round =>
    obtain ⟨rfl, rfl⟩ := hrel
    go_wp2_with fail
    refine bodyPost_ret (v := .tuple #[]) ?_ rfl ?_
    · simp [results, Tryz.results99, go_sem]
    · exact ⟨rfl, HG.out, _, HC.out.one s HO.out⟩

set_option maxHeartbeats 1600000 in
set_option maxRecDepth 100000 in
theorem count_ix (F : Nat → Prop) (i : Nat) (v : Value) (m n : Nat) (D : DataW Value) (l : List B) (w : World) (hv : RepPF F w (.ix i) v) (hC : Cnt w m n D l) :
    Calls Tryz.prog 99 #[v, .map (some m)] w (CntPost w m (n + 1) l) := by
  rw [RepPF] at hv
  obtain ⟨b, rfl, h6, -⟩ := hv
  obtain ⟨c0, -, -, -, c4, c5, -⟩ := h6
  have c0' : w.cell? ⟨b, 0, none⟩ = some (.int .i64 1) := c0
  have HC := Lib.hid hC
  clear c0 hC
  go_enter Tryz.func99, Tryz.ntmps99
  go_wp2_with fail
  go_loopw [34] (fun iv wr => iv = .int .i64 0 ∧ wr = w) (fun _ _ => 0)
  case atStart => exact ⟨rfl, rfl⟩
  case round =>
    obtain ⟨rfl, rfl⟩ := hrel
    go_wp2_with fail
    refine bodyPost_ret (v := .tuple #[]) ?_ rfl ?_
    · simp [results, Tryz.results99, go_sem]
    · exact ⟨rfl, ⟨rfl, rfl, rfl, Nat.le_refl _, fun _ _ _ => rfl⟩, D, HC.out.more (Nat.le_succ _)⟩

/-- What countNames does at terms of size N or less. -/
def CntSaid (N : Nat) : Prop := ∀ (F : Nat → Prop) (j : Nat) (t : Term) (v : Value) (m n : Nat) (D : DataW Value) (l : List B) (w : World), size t ≤ N → n + size t ≤ 900000 → ok j t = true → ¬ F m → RepPF F w t v → Cnt w m n D l →
  Calls Tryz.prog 99 #[v, .map (some m)] w (CntPost w m (n + size t) (l ++ names t))

set_option maxHeartbeats 1600000 in
set_option maxRecDepth 100000 in
theorem count_lam (F : Nat → Prop) (j : Nat) (t : Term) (v : Value) (m n : Nat) (D : DataW Value) (l : List B) (w : World) (IH : CntSaid (size t)) (hn : n + size (.lam t) ≤ 900000) (hok : ok j (.lam t) = true) (hF : ¬ F m) (hv : RepPF F w (.lam t) v) (hC : Cnt w m n D l) :
    Calls Tryz.prog 99 #[v, .map (some m)] w (CntPost w m (n + size (.lam t)) (l ++ names (.lam t))) := by
  rw [RepPF] at hv
  obtain ⟨b, pp, rfl, h6, ht, hb⟩ := hv
  obtain ⟨c0, -, -, -, c4, c5, -⟩ := h6
  have c0' : w.cell? ⟨b, 0, none⟩ = some (.int .i64 2) := c0
  rw [Rt.size] at hn ⊢
  rw [ok] at hok
  obtain ⟨bp, _, _, _, rfl, -, -⟩ := RepPF.head t pp ht
  have HR := Lib.hid (IH F (j + 1) t _ m n D l w (Nat.le_refl _) (by omega) hok hF ht hC)
  have HF := Lib.hid hF
  have HB := Lib.hid hb
  have C5 := Lib.hid c5
  have HN : Hid (names (.lam t) = names t) := rfl
  generalize names (.lam t) = nl at HN ⊢
  clear c0 hC ht hF hb c5 IH hok
  go_enter Tryz.func99, Tryz.ntmps99
  go_wp2_with (go_at_call 99; refine HR.out.mono ?_; rintro e w1 ⟨rfl, hg1, D1, hC1⟩; have HG := Lib.hid hg1; have HC1 := Lib.hid hC1; have d5 := (alike_grown hg1 HF.out).cell HB.out C5.out; clear hg1 hC1)
  go_loopw [34] (fun iv wr => iv = .int .i64 0 ∧ wr = w1) (fun _ _ => 0)
  case atStart => exact ⟨rfl, rfl⟩
  case round =>
    obtain ⟨rfl, rfl⟩ := hrel
    go_wp2_with fail
    refine bodyPost_ret (v := .tuple #[]) ?_ rfl ?_
    · simp [results, Tryz.results99, go_sem]
    · exact ⟨rfl, HG.out, D1, by rw [HN.out]; exact HC1.out.more (by omega)⟩

/-- What holds at the head of countNames' loop. -/
def CntRel (w : World) (m n : Nat) (t : Term) (b : List Term) (l : List B) (j : Nat) (wr : World) : Prop :=
  j ≤ b.length ∧ w.grownBy wr (some m) ∧ ∃ D, Cnt wr m (n + size t + sizes (b.take j)) D (l ++ names t ++ namesL (b.take j))

set_option maxHeartbeats 1600000 in
set_option maxRecDepth 100000 in
theorem count_app (F : Nat → Prop) (jj : Nat) (t : Term) (bg : List Term) (v : Value) (m n : Nat) (D : DataW Value) (l : List B) (w : World) (N : Nat) (IH : CntSaid N) (hN : size t + sizes bg ≤ N) (hn : n + size (.app t bg) ≤ 900000) (hok : ok jj (.app t bg) = true) (hF : ¬ F m) (hv : RepPF F w (.app t bg) v) (hC : Cnt w m n D l) :
    Calls Tryz.prog 99 #[v, .map (some m)] w (CntPost w m (n + size (.app t bg)) (l ++ names (.app t bg))) := by
  rw [RepPF] at hv
  obtain ⟨b, pp, q, ys, rfl, h6, ht, hrow, hys, hb⟩ := hv
  obtain ⟨c0, -, -, -, c4, c5, -⟩ := h6
  obtain ⟨A, c, rfl, hc1, hc2, hA⟩ := hrow
  have c0' : w.cell? ⟨b, 0, none⟩ = some (.int .i64 3) := c0
  rw [Rt.size] at hn ⊢
  rw [ok, Bool.and_eq_true] at hok
  obtain ⟨bp, _, _, _, rfl, -, -⟩ := RepPF.head t pp ht
  have HR := Lib.hid (IH F jj t _ m n D l w (by omega) (by omega) hok.1 hF ht hC)
  have HF := Lib.hid hF
  have HB := Lib.hid hb
  have C5 := Lib.hid c5
  have HYS := Lib.hid hys
  have HAA := Lib.hid hA
  have HOK := Lib.hid ((oks_mem jj bg).1 hok.2)
  have HIH := Lib.hid IH
  have hbl : bg.length ≤ 900000 := by
    have : ∀ l : List Term, l.length ≤ sizes l := by
      intro l
      induction l with
      | nil => simp
      | cons u l ih => have := size_pos u; simp only [sizes, List.length_cons]; omega
    have := this bg
    omega
  have HNM : Hid (l ++ names (.app t bg) = l ++ names t ++ namesL bg) := by show _ = _; rw [names, List.append_assoc]
  generalize l ++ names (.app t bg) = nl at HNM ⊢
  clear c0 hC ht hF hb c5 IH hok hys hA
  unfold maxLen at hc2
  go_enter Tryz.func99, Tryz.ntmps99
  go_wp2_with (go_at_call 99; refine HR.out.mono ?_; rintro e w1 ⟨rfl, hg1, D1, hC1⟩; have HG := Lib.hid hg1; have HC1 := Lib.hid hC1; have d5 := (alike_grown hg1 HF.out).cell HB.out C5.out; clear hg1 hC1)
  go_loopw [34] (fun iv wr => ∃ j : Nat, iv = .int .i64 (j : Nat) ∧ Hid (CntRel w m n t bg l j wr)) (fun iv _ => bg.length - (intOf iv).toNat)
  case atStart => exact ⟨0, rfl, Nat.zero_le _, HG.out, D1, by simpa [namesL, sizes] using HC1.out⟩
  case round =>
    obtain ⟨j, rfl, hrel⟩ := hrel
    have hj := hrel.out.1
    by_cases hlt : j < bg.length
    · obtain ⟨g, rfl, hcells, hFg⟩ := HAA.out (by omega)
      obtain ⟨u, hu⟩ : ∃ u, bg[j]? = some u := ⟨_, List.getElem?_eq_getElem hlt⟩
      obtain ⟨xv, hxv, hrep⟩ := RepPsF.at bg ys j u HYS.out hu
      obtain ⟨-, hgr, D2, hC2⟩ := hrel.out
      have hal := alike_grown hgr HF.out
      have e1 : wr.cell? ⟨g, j, none⟩ = some xv := hal.cell hFg (hcells j xv hxv)
      obtain ⟨bu, _, _, _, rfl, -, -⟩ := RepPF.head u xv hrep
      have hnj := sizes_le bg (j + 1)
      rw [sizes_take bg j u hu] at hnj
      have HC := Lib.hid (HIH.out F jj u _ m _ D2 _ wr (by omega) (by omega) (HOK.out u (List.mem_of_getElem? hu)) HF.out (RepPF.move hal (fun _ h _ => h) _ _ hrep) hC2)
      have HS : Hid (n + size t + sizes (bg.take (j + 1)) = n + size t + sizes (bg.take j) + size u ∧ l ++ names t ++ namesL (bg.take (j + 1)) = l ++ names t ++ namesL (bg.take j) ++ names u) := ⟨by rw [sizes_take bg j u hu]; omega, by rw [namesL_snoc bg j u hu]; simp only [List.append_assoc]⟩
      have HGR := Lib.hid hgr
      clear hcells hxv hrep hgr hC2 hal hu
      go_wp2_with (go_at_call 99; refine HC.out.mono ?_; rintro e w3 ⟨rfl, hg3, D3, hC3⟩; have HREL3 : Hid (CntRel w m n t bg l (j + 1) w3) := ⟨hlt, HGR.out.trans hg3, D3, by rw [HS.out.1, HS.out.2]; exact hC3⟩; clear hg3 hC3)
      go_roundw
      case rel => exact ⟨j + 1, by go_num, HREL3.out⟩
      case measure => simp [intOf]; omega
    · have hjb : j = bg.length := by omega
      subst hjb
      go_wp2_with fail
      refine bodyPost_ret (v := .tuple #[]) ?_ rfl ?_
      · simp [results, Tryz.results99, go_sem]
      · obtain ⟨-, hgr, D2, hC2⟩ := hrel.out
        rw [List.take_of_length_le (Nat.le_refl _)] at hC2
        exact ⟨rfl, hgr, D2, by rw [HNM.out]; exact hC2.more (by omega)⟩

/-- countNames at any term. -/
theorem cntSaid : ∀ N, CntSaid N
  | 0 => by
    intro F j t v m n D l w h
    have := size_pos t
    omega
  | N + 1 => by
    intro F j t v m n D l w hN hn hok hF hv hC
    cases t with
    | nm s =>
      rw [Rt.size] at hn ⊢
      rw [ok] at hok
      exact count_nm F s v m n D l w (by omega) hF (by have := name_len s hok; omega) hv hC
    | ix i =>
      rw [Rt.size] at hn ⊢
      rw [names, List.append_nil]
      exact count_ix F i v m n D l w hv hC
    | lam t =>
      rw [Rt.size] at hN
      exact count_lam F j t v m n D l w (fun F j u v m n D l w h => cntSaid N F j u v m n D l w (by omega)) hn hok hF hv hC
    | app t bg =>
      rw [Rt.size] at hN
      exact count_app F j t bg v m n D l w N (cntSaid N) (by omega) hn hok hF hv hC

set_option maxHeartbeats 800000 in
set_option maxRecDepth 100000 in
theorem degrees_any (F : Nat → Prop) (j : Nat) (t : Term) (v : Value) (w : World) (hs : size t ≤ 800000) (hok : ok j t = true) (hF : ∀ k, F k → k < w.heap.size) (hv : RepPF F w t v) :
    Calls Tryz.prog 69 #[v] w fun e w' => e = .returned (.map (some w.heap.size)) ∧ Below w.heap.size w w' ∧ ∃ D, Cnt w' w.heap.size (size t) D (names t) := by
  have hmm := @run_makeMap Tryz.prog
  have HC : Hid (Calls Tryz.prog 99 #[v, .map (some w.heap.size)] (w.alloc (.map #[] 0)) (CntPost (w.alloc (.map #[] 0)) w.heap.size (size t) (names t))) := by
    have h := cntSaid (size t) F j t v w.heap.size 0 (.map []) [] (w.alloc (.map #[] 0)) (Nat.le_refl _) (by omega) hok (fun h => by have := hF _ h; omega) (RepPF.move (fun k _ hk => Below.heap_alloc w _ k hk) (fun _ h _ => h) _ _ hv)
      ⟨World.ownsMap_made w _ _ _, isMap_empty, fun s => by simp [DataW.atKey], fun s => by simp [Maps.has], by simp⟩
    rw [Nat.zero_add, List.nil_append] at h
    exact h
  clear hv hok hF
  generalize names t = nl at HC ⊢
  go_enter Tryz.func69, Tryz.ntmps69
  go_wp2_with (go_at_call 99; refine HC.out.mono ?_; rintro e w1 ⟨rfl, hg1, hC1⟩; have HG := Lib.hid hg1; have HC1 := Lib.hid hC1; clear hg1 hC1)
  go_ret
  exact ⟨rfl, Below.grown (below_one w _) HG.out (by simp) (fun k hk => by injection hk with hk; omega), HC1.out⟩

end Go.Proofs.YtomaknmemhpghaaGreatDoor
