/- The program's TermOpen. -/
import Derived.Test.YtomaknmemhpghaaGreatDoorDgB
namespace Go.Proofs.YtomaknmemhpghaaGreatDoor
open Go.RowKit Rt Go.Lib
open Go.ChangeMaps Go.MapKept Go.Maps Go.WideMaps

/-- What TermOpen tells. -/
def openRes (l a : B) : B × Bool := match termOf l with
  | some (.lam t) => if isName a = true ∧ (names t).count a = 0 then (text (sort (swp (lOpen a) 0 t)), true) else ([], false)
  | _ => ([], false)

theorem kind_lam (t : Term) (h : kindOf t = 2) : ∃ u, t = .lam u := by
  cases t with
  | lam u => exact ⟨u, rfl⟩
  | nm s => simp [kindOf] at h
  | ix n => simp [kindOf] at h
  | app t b => simp [kindOf] at h

set_option maxHeartbeats 1600000 in
set_option maxRecDepth 100000 in
theorem implTermOpen (s : ByteArray) (a : B) (hs : s.size ≤ maxLen) (ha : a.length ≤ maxLen) (w : World) :
    Calls Tryz.prog 28 #[.string s, .string ⟨a.toArray⟩] w fun e w' => e = .returned (.tuple #[st (openRes s.data.toList a).1, .bool (openRes s.data.toList a).2]) ∧ Below w.heap.size w w' := by
  have HC : Hid (∀ w1, Pool (fun _ => False) w1 (w.heap.size + 1) w.heap.size 0 (.map []) → Calls Tryz.prog 52 #[.pointer (some ⟨w.heap.size + 1, 0, none⟩), .string s] w1 (PartPost (fun _ => False) w1 (w.heap.size + 1) w.heap.size 0 4000 (termOf s.data.toList))) :=
    fun w1 hP => read_any _ _ _ 0 _ s hs w1 (by omega) hP
  have HA : Hid (∀ W, Calls Tryz.prog 64 #[.string ⟨a.toArray⟩] W fun e w' => e = .returned (.bool (isName a)) ∧ W = w') := fun W => isName_any a W ha
  have HT : Hid (openRes s.data.toList a = match termOf s.data.toList with | some (.lam t) => if isName a = true ∧ (names t).count a = 0 then (text (sort (swp (lOpen a) 0 t)), true) else ([], false) | _ => ([], false)) := rfl
  have HOK : Hid (∀ t, termOf s.data.toList = some t → ok 0 t = true ∧ size t ≤ 60) := fun t h => termOf_ok _ t h
  have HST : Hid (∀ t, termOf s.data.toList = some t → sort t = t) := fun t h => (termOf_sorted _ t h).1
  have hsz : (⟨a.toArray⟩ : ByteArray).size ≤ maxLen := by simpa [ByteArray.size] using ha
  have hkey := Lib.hid (keyOf_string_mk (P := Tryz.prog) Tryz.underlying9 hsz)
  clear hsz
  generalize openRes s.data.toList a = x at HT ⊢
  generalize termOf s.data.toList = r at HC HT HOK HST
  go_enter Tryz.func28, Tryz.ntmps28
  go_wp2_with fail
  refine (newTermPool_any _).mono ?_
  rintro e w1 ⟨rfl, hb1, hz, hP⟩
  have HB1 := Lib.hid hb1
  have HC1 := Lib.hid (HC.out w1 hP)
  clear hb1 hP hz
  go_wp2_with fail
  refine HC1.out.mono ?_
  intro e w2 hq
  cases r with
  | none =>
    obtain ⟨hg, rfl⟩ := hq
    have HG := Lib.hid hg
    clear hg
    go_wp2_with fail
    go_ret2
    exact ⟨by rw [HT.out]; rfl, below_pool HB1.out HG.out⟩
  | some T =>
    obtain ⟨hg, v, D, n, rfl, hn, hv, hP⟩ := hq
    obtain ⟨o1, o2⟩ := HOK.out T rfl
    by_cases hk : kindOf T = 2
    · obtain ⟨t, rfl⟩ := kind_lam T hk
      obtain ⟨bv, _, _, _, rfl, h6, -⟩ := RepPF.head _ _ hv
      obtain ⟨c0, -⟩ := h6
      have c0' : w2.cell? ⟨bv, 0, none⟩ = some (.int .i64 2) := c0
      have HG := Lib.hid hg
      have HD := Lib.hid (degrees_any (fun k => k < w2.heap.size) 0 (.lam t) _ w2 (by omega) o1 (fun _ h => h) (RepPF.move (fun _ _ _ => rfl) (fun k _ hk => hk) _ _ hv))
      have HV := Lib.hid hv
      have HP := Lib.hid hP
      have o1' : ok 1 t = true := by rw [ok] at o1; exact o1
      have HS1 : Hid (sort t = t) := lam_sorted (HST.out _ rfl)
      have HO := Lib.hid o1'
      have o3 : size t ≤ 59 := by rw [Rt.size] at o2; omega
      have HN : Hid (names (.lam t) = names t) := rfl
      rw [HN.out] at HD
      have hpw : w.heap.size + 2 ≤ w2.heap.size := by have h1 := hP.plt; omega
      clear hg hv hP o1 o1' c0 hk HN
      cases h1 : isName a
      · rw [h1] at HA
        have HX : Hid (x = ([], false)) := by show _ = _; rw [HT.out]; simp [h1]
        clear h1
        go_wp2_with (go_at_call 64; refine (HA.out _).mono ?_; rintro e w' ⟨rfl, rfl⟩)
        go_ret2
        exact ⟨by rw [HX.out]; rfl, below_pool HB1.out HG.out⟩
      · rw [h1] at HA
        have hcl : (names t).count a ≤ 60 := by have h2 := List.count_le_length (a := a) (l := names t); have := names_len t; omega
        by_cases h2 : (names t).count a = 0
        · have HX : Hid (x = (text (sort (swp (lOpen a) 0 t)), true)) := by show _ = _; rw [HT.out]; simp [h1, h2]
          have HR : Hid (∀ W, Below w2.heap.size w2 W → Calls Tryz.prog 61 #[.pointer (some ⟨w.heap.size + 1, 0, none⟩), .pointer (some ⟨bv, 0, none⟩), .string ⟨a.toArray⟩] W (SwapPost (fun k => False ∨ w1.heap.size ≤ k) w2 (w.heap.size + 1) w.heap.size n (size t) (sort (swp (lOpen a) 0 t)))) := by
            intro W hbW
            refine (open_any _ t a _ _ _ n D W h1 (by omega) HO.out HS1.out (by omega) (RepPF.move (fun k _ hk => hbW.block k hk) (fun _ h _ => h) _ _ HV.out) (HP.out.below hbW)).mono ?_
            exact fun e w' h => SwapPost.elder (below_grown hbW _) HP.out.far HP.out.map.lt h
          have HZ : Hid ((names t).count a = 0) := h2
          generalize sort (swp (lOpen a) 0 t) = r at HR HX
          clear h1 h2
          go_wp2_with (first
            | (go_at_call 64; (with_reducible refine (HA.out _).mono ?_); rintro e w' ⟨rfl, rfl⟩)
            | (go_at_call 69; refine HD.out.mono ?_; rintro e w3 ⟨rfl, hb3, D3, hC3⟩; have HB3 := Lib.hid hb3; obtain ⟨c, hrun, hat, -⟩ := hC3.map.lookup_int (t := 71) (string_keyed Tryz.underlying9) Tryz.underlying71 Tryz.underlying3 (zero_int _) hkey.out; obtain rfl : c = 0 := (by have h1 := (hC3.val a).symm.trans hat; rw [HZ.out] at h1; injection h1 with h1; injection h1 with _ h1; exact h1.symm); clear hb3 hC3 hat)
            | (go_at_call 61; refine (HR.out w3 HB3.out).mono ?_; rintro e w4 ⟨hg4, v4, D4, n4, rfl, -, hv4, -⟩; obtain ⟨b4, i4, fp4, q4, rfl, h64, -⟩ := RepPF.head _ _ hv4; obtain ⟨-, c41, -, -⟩ := h64; rw [st_eq] at c41; have HG4 := Lib.hid hg4; clear hg4 hv4))
          refine bodyPost_ret (v := .tuple #[.string ⟨(text r).toArray⟩, .bool true]) ?_ rfl ?_
          · simp [results, Tryz.results28, go_sem]
          · exact ⟨by rw [HX.out]; rfl, below_pool HB1.out (HG.out.trans HG4.out)⟩
        · have HX : Hid (x = ([], false)) := by show _ = _; rw [HT.out]; simp [h1, h2]
          obtain ⟨cn, HZ⟩ : ∃ cn : Nat, Hid ((names t).count a = cn) := ⟨_, rfl⟩
          have hpos : 1 ≤ cn := by have := HZ.out; omega
          have hcn : cn ≤ 60 := by have := HZ.out; omega
          clear h1 h2 hcl
          go_wp2_with (first
            | (go_at_call 64; (with_reducible refine (HA.out _).mono ?_); rintro e w' ⟨rfl, rfl⟩)
            | (go_at_call 69; refine HD.out.mono ?_; rintro e w3 ⟨rfl, hb3, D3, hC3⟩; have HB3 := Lib.hid hb3; obtain ⟨c, hrun, hat, -⟩ := hC3.map.lookup_int (t := 71) (string_keyed Tryz.underlying9) Tryz.underlying71 Tryz.underlying3 (zero_int _) hkey.out; obtain rfl : c = (cn : Int) := (by have h1 := (hC3.val a).symm.trans hat; rw [HZ.out] at h1; injection h1 with h1; injection h1 with _ h1; exact h1.symm); clear hb3 hC3 hat))
          go_ret2
          exact ⟨by rw [HX.out]; rfl, (below_pool HB1.out HG.out).trans (HB3.out.mono (below_pool HB1.out HG.out).size)⟩
    · obtain ⟨bv, _, _, _, rfl, h6, -⟩ := RepPF.head _ _ hv
      obtain ⟨c0, -⟩ := h6
      have HG := Lib.hid hg
      have HX : Hid (x = ([], false)) := by
        show _ = _
        rw [HT.out]
        cases T with
        | lam u => exact absurd rfl hk
        | nm s => rfl
        | ix n => rfl
        | app t b => rfl
      have hk2 : ((kindOf T : Int) == 2) = false := by simp; omega
      have hk3 : ((kindOf T : Int) != 2) = true := by simp; omega
      generalize kindOf T = kd at c0 hk2 hk3
      clear hg hv hP o1 hk
      go_wp2_with fail
      go_ret2
      exact ⟨by rw [HX.out]; rfl, below_pool HB1.out HG.out⟩

end Go.Proofs.YtomaknmemhpghaaGreatDoor
