/- The model's count of redexes and its HeadName. -/
import Derived.Test.YtcbciaofajhklaaGreatDoorSpecM
import Derived.Test.YtcbciaofajhklaaGreatDoorRedA
import Derived.Test.YtcbciaofajhklaaGreatDoorSpecI
set_option linter.unusedSimpArgs false
set_option linter.unusedVariables false
/-! The model's count of redexes: RedexCount and TermNormal. -/
namespace Go.Proofs.YtcbciaofajhklaaGreatDoor
open Go.RowKit Rt

theorem head_lam (t : Term) : headT (ofTerm (.lam t)) = [108, 97, 109] := rfl
theorem head_app (t : Term) (l : List Term) : headT (ofTerm (.app t l)) = [97, 112, 112] := rfl
theorem head_nm (s : B) : headT (ofTerm (.nm s)) = [] := rfl
theorem head_ix (n : Nat) : headT (ofTerm (.ix n)) = [] := rfl

set_option maxHeartbeats 800000 in
set_option maxRecDepth 100000 in
theorem l4Redex_any (t : Term) (v : Value) (w : World) (hr : RepS w (ofTerm t) v) :
    Calls Tryz.prog 55 #[v] w fun e w' => e = .returned (.bool (isRed t)) ∧ Below w.heap.size w w' := by
  have other : ∀ q : B, headT (ofTerm t) = q → (q = [] ∨ q = [108, 97, 109]) → isRed t = false → Calls Tryz.prog 55 #[v] w fun e w' => e = .returned (.bool (isRed t)) ∧ Below w.heap.size w w' := by
    intro q hq hq2 hi
    rw [hi]
    obtain ⟨u, A, n, c, rfl⟩ := repS_shape hr
    have HR := Lib.hid hr
    have HQ := Lib.hid hq
    clear hr hq hi
    rcases hq2 with rfl | rfl
    all_goals
      go_enter Tryz.func55, Tryz.ntmps55
      go_wp2_with fail
      have hW := below_one w (.cells #[.string ⟨u.toArray⟩, .slice A n c] 51)
      generalize w.alloc (.cells #[.string ⟨u.toArray⟩, .slice A n c] 51) = W at *
      refine (l1Head_any _ _ _ (HR.out.keep (below_keeps hW))).mono ?_
      rintro e w2 ⟨rfl, hb2⟩
      rw [HQ.out, st_eq]
      have hB2 := Lib.hid (hW.trans (hb2.mono hW.size))
      clear hW hb2
      go_wp2_with fail
      go_ret
      exact ⟨rfl, hB2.out⟩
  cases t with
  | nm s => exact other [] rfl (.inl rfl) rfl
  | ix n => exact other [] rfl (.inl rfl) rfl
  | lam t => exact other _ rfl (.inr rfl) rfl
  | app t0 l =>
    clear other
    have HR := Lib.hid hr
    obtain ⟨b, c, y0, x1, y1, g, d, ys, rfl, h1, h2, c0, c1, c2, c3, ht, c4, c5, h3, h4, hc, hf⟩ := repS_app hr
    have C2 := Lib.hid c2
    have C3 := Lib.hid c3
    have HT := Lib.hid ht
    clear c0 c1 c2 c3 c4 c5 hc hf ht hr
    unfold maxLen at h2
    have walk : ∀ q : B, headT (ofTerm t0) = q → (q = [] ∨ q = [97, 112, 112] ∨ q = [108, 97, 109]) → Calls Tryz.prog 55 #[.agg #[st [], .slice (some ⟨b, 0, none⟩) 3 c]] w fun e w' => e = .returned (.bool (decide (q = [108, 97, 109]))) ∧ Below w.heap.size w w' := by
      intro q hq hq2
      have HQ := Lib.hid hq
      clear hq
      rw [st_eq] at HR ⊢
      rcases hq2 with rfl | rfl | rfl
      all_goals
        go_enter Tryz.func55, Tryz.ntmps55
        go_wp2_with fail
        have hW := below_one w (.cells #[.string ⟨#[]⟩, .slice (some ⟨b, 0, none⟩) 3 c] 51)
        obtain ⟨hx1, hx2⟩ := two_cells w (.string ⟨#[]⟩) (.slice (some ⟨b, 0, none⟩) 3 c) 51
        have hsz : w.heap.size + 1 ≤ (w.alloc (.cells #[.string ⟨#[]⟩, .slice (some ⟨b, 0, none⟩) 3 c] 51)).heap.size := by simp
        generalize w.alloc (.cells #[.string ⟨#[]⟩, .slice (some ⟨b, 0, none⟩) 3 c] 51) = W at *
        have hKW := below_keeps hW
        refine (l1Head_any _ _ _ (HR.out.keep hKW)).mono ?_
        rintro e w2 ⟨rfl, hb2⟩
        rw [st_eq, show headT (ofTerm (.app t0 l)) = [97, 112, 112] from rfl]
        have hK2 := hKW.trans (below_keeps hb2)
        have hy2 : w2.cell? ⟨w.heap.size, 1, none⟩ = some (.slice (some ⟨b, 0, none⟩) 3 c) := by rw [hb2.cell (by show w.heap.size < _; omega)]; exact hx2
        have c2 := hK2 _ _ C2.out
        have c3 := hK2 _ _ C3.out
        have hB2 : Below w.heap.size w w2 := hW.trans (hb2.mono (by omega))
        clear hx1 hx2 hW hb2
        go_wp2_with fail
        refine (l1Head_any _ _ _ (HT.out.keep hK2)).mono ?_
        rintro e w3 ⟨rfl, hb3⟩
        rw [HQ.out, st_eq]
        have hB3 := Lib.hid (hB2.trans (hb3.mono hB2.size))
        clear hb3
        go_wp2_with fail
        go_ret
        exact ⟨rfl, hB3.out⟩
    have e : isRed (.app t0 l) = decide (headT (ofTerm t0) = [108, 97, 109]) := by cases t0 <;> simp [isRed, head_lam, head_app, head_nm, head_ix]
    rw [e]
    refine walk _ rfl ?_
    cases t0 with
    | nm s => exact .inl rfl
    | ix n => exact .inl rfl
    | lam t => exact .inr (.inr rfl)
    | app t m => exact .inr (.inl rfl)

set_option maxHeartbeats 1600000 in
set_option maxRecDepth 100000 in
theorem l4Count_any (n : Nat) : ∀ (t : Term) (v : Value) (w : World), size t ≤ n → n ≤ 1000000 → RepS w (ofTerm t) v →
    Calls Tryz.prog 22 #[v] w fun e w' => e = .returned (.int .i64 (redN t)) ∧ Below w.heap.size w w' := by
  induction n with
  | zero => intro t v w h; have := size_pos t; omega
  | succ n ih =>
    intro t v w hn hm hr
    have atom : ∀ s : B, v = .agg #[st s, .slice none 0 0] → (redN t : Int) = 0 → Calls Tryz.prog 22 #[v] w fun e w' => e = .returned (.int .i64 (redN t)) ∧ Below w.heap.size w w' := by
      intro s hv h1
      rw [h1]
      clear h1 hr ih
      subst hv
      have hrep : ∀ w, RepS w (.atom s) (.agg #[st s, .slice none 0 0]) := fun w => by rw [RepS]
      rw [st_eq] at hrep ⊢
      go_enter Tryz.func22, Tryz.ntmps22
      go_wp2_with fail
      refine (l1Head_any (.atom s) _ _ (hrep _)).mono ?_
      rintro e w2 ⟨rfl, hb2⟩
      rw [st_eq, show headT (.atom s) = [] from rfl]
      go_wp2_with fail
      go_ret
      exact ⟨rfl, (below_one _ _).trans (hb2.mono (by simp))⟩
    cases t with
    | nm s => exact atom s (by rw [ofTerm, RepS] at hr; exact hr) rfl
    | ix k => exact atom (dec k) (by rw [ofTerm, RepS] at hr; exact hr) rfl
    | lam t =>
      clear atom
      have HR := Lib.hid hr
      obtain ⟨b, c, y0, x1, y1, rfl, h1, h2, c0, c1, c2, c3, ht⟩ := repS_lam hr
      have C2 := Lib.hid c2
      have C3 := Lib.hid c3
      have HT := Lib.hid ht
      have IH := Lib.hid ih
      rw [size] at hn
      clear c0 c1 c2 c3 ht hr ih
      unfold maxLen at h2
      have E := st_eq []
      rw [st_eq] at HR ⊢
      go_enter Tryz.func22, Tryz.ntmps22
      go_wp2_with fail
      have hW := below_one w (.cells #[.string ⟨#[]⟩, .slice (some ⟨b, 0, none⟩) 2 c] 51)
      obtain ⟨hx1, hx2⟩ := two_cells w (.string ⟨#[]⟩) (.slice (some ⟨b, 0, none⟩) 2 c) 51
      have hsz : w.heap.size + 1 ≤ (w.alloc (.cells #[.string ⟨#[]⟩, .slice (some ⟨b, 0, none⟩) 2 c] 51)).heap.size := by simp
      generalize w.alloc (.cells #[.string ⟨#[]⟩, .slice (some ⟨b, 0, none⟩) 2 c] 51) = W at *
      have hKW := below_keeps hW
      refine (l1Head_any _ _ _ (HR.out.keep hKW)).mono ?_
      rintro e w2 ⟨rfl, hb2⟩
      rw [st_eq, show headT (ofTerm (.lam t)) = [108, 97, 109] from rfl]
      have hK2 := hKW.trans (below_keeps hb2)
      have hy2 : w2.cell? ⟨w.heap.size, 1, none⟩ = some (.slice (some ⟨b, 0, none⟩) 2 c) := by rw [hb2.cell (by show w.heap.size < _; omega)]; exact hx2
      have c2 := hK2 _ _ C2.out
      have c3 := hK2 _ _ C3.out
      clear hx1 hx2
      go_wp2_with fail
      refine (IH.out t _ w2 (by omega) (by omega) (HT.out.keep hK2)).mono ?_
      rintro e w3 ⟨rfl, hb3⟩
      have hs := size_pos t
      go_wp2_with fail
      go_ret
      refine ⟨ret_int ?_, (hW.trans (hb2.mono (by omega))).trans (hb3.mono (by have := hb2.size; omega))⟩
      rw [redN]
    | app t l =>
      clear atom
      have HR := Lib.hid hr
      obtain ⟨b, c, y0, x1, y1, g, d, ys, rfl, h1, h2, c0, c1, c2, c3, ht, c4, c5, h3, h4, hc, hf⟩ := repS_app hr
      have C2 := Lib.hid c2
      have C3 := Lib.hid c3
      have C5 := Lib.hid c5
      have HT := Lib.hid ht
      have HC := Lib.hid hc
      have HF := Lib.hid hf
      have IH := Lib.hid ih
      rw [size] at hn
      clear c0 c1 c2 c3 c4 c5 hc hf ht hr ih
      unfold maxLen at h2 h4
      rw [st_eq] at HR ⊢
      go_enter Tryz.func22, Tryz.ntmps22
      go_wp2_with fail
      have hW := below_one w (.cells #[.string ⟨#[]⟩, .slice (some ⟨b, 0, none⟩) 3 c] 51)
      obtain ⟨hx1, hx2⟩ := two_cells w (.string ⟨#[]⟩) (.slice (some ⟨b, 0, none⟩) 3 c) 51
      have hsz : w.heap.size + 1 ≤ (w.alloc (.cells #[.string ⟨#[]⟩, .slice (some ⟨b, 0, none⟩) 3 c] 51)).heap.size := by simp
      generalize w.alloc (.cells #[.string ⟨#[]⟩, .slice (some ⟨b, 0, none⟩) 3 c] 51) = W at *
      have hKW := below_keeps hW
      refine (l1Head_any _ _ _ (HR.out.keep hKW)).mono ?_
      rintro e w2 ⟨rfl, hb2⟩
      rw [st_eq, show headT (ofTerm (.app t l)) = [97, 112, 112] from rfl]
      have hK2 := hKW.trans (below_keeps hb2)
      have hB2 : Below w.heap.size w w2 := hW.trans (hb2.mono (by omega))
      have hy1 : w2.cell? ⟨w.heap.size, 0, none⟩ = some (.string ⟨#[]⟩) := by rw [hb2.cell (by show w.heap.size < _; omega)]; exact hx1
      have hy2 : w2.cell? ⟨w.heap.size, 1, none⟩ = some (.slice (some ⟨b, 0, none⟩) 3 c) := by rw [hb2.cell (by show w.heap.size < _; omega)]; exact hx2
      have h2s := hb2.size
      clear hx1 hx2
      go_wp2_with fail
      refine (l4Redex_any (.app t l) _ w2 (HR.out.keep hK2)).mono ?_
      rintro e w5 ⟨rfl, hb5⟩
      have hK5 := hK2.trans (below_keeps hb5)
      have hy5 := below_keeps hb5 _ _ hy2
      have hB5 : Below w.heap.size w w5 := hB2.trans (hb5.mono hB2.size)
      have h5s := hb5.size
      have c2 := hK5 _ _ C2.out
      have c3 := hK5 _ _ C3.out
      clear hy1 hy2
      have hRD : ∃ rd : Bool, isRed (.app t l) = rd := ⟨_, rfl⟩
      obtain ⟨rd, hrd⟩ := hRD
      have HRD := Lib.hid hrd
      rw [hrd]
      clear hrd
      have hlt0 := redN_le t
      have hll0 := redNs_le l
      have fin : ∀ z : Nat, z ≤ 1 → (rd = true → z = 1) → (rd = false → z = 0) → (redN (.app t l) : Int) = z + redN t + redNs l := by
        intro z hz h1 h0
        rw [redN, HRD.out]
        cases rd with
        | true => rw [if_pos rfl, h1 rfl]; push_cast; omega
        | false => rw [if_neg (by simp), h0 rfl]; push_cast; omega
      have FIN := Lib.hid fin
      clear fin
      cases rd
      · go_wp2_with fail
        refine (IH.out t _ w5 (by omega) (by omega) (HT.out.keep hK5)).mono ?_
        rintro e w3 ⟨rfl, hb3⟩
        have hs := size_pos t
        have hK3 := hK5.trans (below_keeps hb3)
        have hy3 : w3.cell? ⟨w.heap.size, 1, none⟩ = some (.slice (some ⟨b, 0, none⟩) 3 c) := below_keeps hb3 _ _ hy5
        have c5 := hK3 _ _ C5.out
        have hB3 : Below w.heap.size w w3 := hB5.trans (hb3.mono hB5.size)
        clear c2 c3 hy5
        go_wp2_with fail
        go_loopw [3, 5] (fun z i wr => ∃ k : Nat, k ≤ l.length ∧ i = .int .i64 (k + 1) ∧ z = .int .i64 (0 + redN t + redNs (l.take k)) ∧ Below w3.heap.size w3 wr) (fun _ i _ => l.length + 1 - (intOf i).toNat)
        case atStart => exact ⟨0, by omega, rfl, by simp [redNs], Below.refl _ _⟩
        case round =>
          obtain ⟨k, hk, rfl, rfl, hB⟩ := hrel
          have hle := redNs_take_le l k
          by_cases hlt : k < l.length
          · obtain ⟨u, hu⟩ : ∃ u, l[k]? = some u := ⟨l[k], List.getElem?_eq_getElem hlt⟩
            obtain ⟨x, y, e1, e2, hrt⟩ := RepF.at _ ys (k + 1) (ofTerm u) HF.out (by rw [List.getElem?_cons_succ]; exact ofTerms_at l k u hu)
            have hK := hK3.trans (below_keeps hB)
            have c1 := hK _ _ (HC.out ((k + 1) * 2) x e1)
            have c2 := hK _ _ (HC.out ((k + 1) * 2 + 1) y e2)
            have HRU := Lib.hid (hrt.keep hK)
            have HS := Lib.hid (redNs_take l k u hu)
            have hs2 := redNs_take_le l (k + 1)
            have hs3 : size u ≤ sizes l := by have h1 := sizes_take l k u hu; have h2 := sizes_le l (k + 1); omega
            have hs4 : redNs (l.take k) + redN u ≤ redNs l := by have := HS.out; omega
            clear e1 e2 hrt hu
            go_wp2_with fail
            refine (IH.out u _ wr (by omega) (by omega) HRU.out).mono ?_
            rintro e w4 ⟨rfl, hb4⟩
            have hsu := size_pos u
            go_wp2_with fail
            go_roundw
            case rel => exact ⟨k + 1, by omega, by go_num, by rw [HS.out]; go_num, hB.trans (hb4.mono hB.size)⟩
            case measure => simp [intOf]; omega
          · have e : l.take k = l := List.take_of_length_le (by omega)
            have HE := Lib.hid e
            clear e
            go_wp2_with fail
            go_ret
            refine ⟨ret_int ?_, hB3.trans (hB.mono hB3.size)⟩
            rw [FIN.out 0 (by omega) (by simp) (by simp), HE.out]; push_cast; omega
      · go_wp2_with fail
        refine (IH.out t _ w5 (by omega) (by omega) (HT.out.keep hK5)).mono ?_
        rintro e w3 ⟨rfl, hb3⟩
        have hs := size_pos t
        have hK3 := hK5.trans (below_keeps hb3)
        have hy3 : w3.cell? ⟨w.heap.size, 1, none⟩ = some (.slice (some ⟨b, 0, none⟩) 3 c) := below_keeps hb3 _ _ hy5
        have c5 := hK3 _ _ C5.out
        have hB3 : Below w.heap.size w w3 := hB5.trans (hb3.mono hB5.size)
        clear c2 c3 hy5
        go_wp2_with fail
        go_loopw [3, 5] (fun z i wr => ∃ k : Nat, k ≤ l.length ∧ i = .int .i64 (k + 1) ∧ z = .int .i64 (1 + redN t + redNs (l.take k)) ∧ Below w3.heap.size w3 wr) (fun _ i _ => l.length + 1 - (intOf i).toNat)
        case atStart => exact ⟨0, by omega, rfl, by simp [redNs], Below.refl _ _⟩
        case round =>
          obtain ⟨k, hk, rfl, rfl, hB⟩ := hrel
          have hle := redNs_take_le l k
          by_cases hlt : k < l.length
          · obtain ⟨u, hu⟩ : ∃ u, l[k]? = some u := ⟨l[k], List.getElem?_eq_getElem hlt⟩
            obtain ⟨x, y, e1, e2, hrt⟩ := RepF.at _ ys (k + 1) (ofTerm u) HF.out (by rw [List.getElem?_cons_succ]; exact ofTerms_at l k u hu)
            have hK := hK3.trans (below_keeps hB)
            have c1 := hK _ _ (HC.out ((k + 1) * 2) x e1)
            have c2 := hK _ _ (HC.out ((k + 1) * 2 + 1) y e2)
            have HRU := Lib.hid (hrt.keep hK)
            have HS := Lib.hid (redNs_take l k u hu)
            have hs2 := redNs_take_le l (k + 1)
            have hs3 : size u ≤ sizes l := by have h1 := sizes_take l k u hu; have h2 := sizes_le l (k + 1); omega
            have hs4 : redNs (l.take k) + redN u ≤ redNs l := by have := HS.out; omega
            clear e1 e2 hrt hu
            go_wp2_with fail
            refine (IH.out u _ wr (by omega) (by omega) HRU.out).mono ?_
            rintro e w4 ⟨rfl, hb4⟩
            have hsu := size_pos u
            go_wp2_with fail
            go_roundw
            case rel => exact ⟨k + 1, by omega, by go_num, by rw [HS.out]; go_num, hB.trans (hb4.mono hB.size)⟩
            case measure => simp [intOf]; omega
          · have e : l.take k = l := List.take_of_length_le (by omega)
            have HE := Lib.hid e
            clear e
            go_wp2_with fail
            go_ret
            refine ⟨ret_int ?_, hB3.trans (hB.mono hB3.size)⟩
            rw [FIN.out 1 (by omega) (by simp) (by simp), HE.out]; push_cast; omega

end Go.Proofs.YtcbciaofajhklaaGreatDoor

/-! The walks of the model's RedexCount and TermNormal. -/
namespace Go.Proofs.YtcbciaofajhklaaGreatDoor
open Go.RowKit Rt

/-- What RedexCount tells. -/
def redRes (l : B) : Int := match termOf l with | some t => redN t | none => -1

set_option maxHeartbeats 800000 in
theorem specRedexCount (hBag : BagSaid) (s : ByteArray) (hm : s.size ≤ maxLen) (w : World) :
    Calls Tryz.prog 7 #[.string s] w fun e w' => e = .returned (.int .i64 (redRes s.data.toList)) ∧ Below w.heap.size w w' := by
  go_enter Tryz.func7, Tryz.ntmps7
  go_wp2_with fail
  refine (l1Term_any hBag s hm w).mono ?_
  intro e w2 hp
  cases ht : termOf s.data.toList with
  | none =>
    rw [ht] at hp
    obtain ⟨hb, u, A, n, c, rfl⟩ := hp
    have hs := hb.size
    have HB := Lib.hid hb
    have HT : Hid (redRes s.data.toList = -1) := by show _ = _; rw [redRes, ht]
    clear ht hb
    go_wp2_with fail
    go_ret
    exact ⟨by rw [HT.out]; rfl, HB.out.alloc hs _⟩
  | some t =>
    rw [ht] at hp
    obtain ⟨hb, v, rfl, hr⟩ := hp
    obtain ⟨u, A, n, c, rfl⟩ := repS_shape (RepSF.rep _ _ hr)
    obtain ⟨_, _, _, f4⟩ := loose_some _ _ (termOf_some _ _ ht).1
    have hs := hb.size
    have HB := Lib.hid (hb.alloc hs (.cells #[.string ⟨u.toArray⟩, .slice A n c] 51))
    have HR := Lib.hid ((RepSF.rep _ _ hr).keep (below_keeps (below_one w2 (.cells #[.string ⟨u.toArray⟩, .slice A n c] 51))))
    have HT : Hid (redRes s.data.toList = (redN t : Int)) := by show _ = _; rw [redRes, ht]
    clear ht hb hr
    go_wp2_with fail
    generalize w2.alloc (.cells #[.string ⟨u.toArray⟩, .slice A n c] 51) = W2 at *
    refine (l4Count_any 60 t _ W2 f4 (by omega) HR.out).mono ?_
    rintro e w3 ⟨rfl, hb3⟩
    have HB3 := Lib.hid (HB.out.trans (hb3.mono HB.out.size))
    clear hb3
    go_wp2_with fail
    go_ret
    exact ⟨by rw [HT.out]; rfl, HB3.out⟩

end Go.Proofs.YtcbciaofajhklaaGreatDoor

/-! The model's HeadName. -/
namespace Go.Proofs.YtcbciaofajhklaaGreatDoor
open Go.RowKit Rt

theorem down_atom : ∀ t : Term, (∃ s, down t = .nm s) ∨ ∃ n, down t = .ix n
  | .nm s => .inl ⟨s, by rw [down] <;> simp⟩
  | .ix n => .inr ⟨n, by rw [down] <;> simp⟩
  | .lam t => by rw [down]; exact down_atom t
  | .app t l => by rw [down]; exact down_atom t

/-- What HeadName tells. -/
def headRes (l : B) : B × Bool := match termOf l with | some t => headOf t | none => ([], false)

/-- What holds at the heads of HeadName's loops. -/
structure HdRel (w wr : World) (b0 : Nat) (t u : Term) (k : Nat) (x y : Value) : Prop where
  box : Blk wr b0 51 #[x, y]
  rep : RepSF (fun q => q < b0) wr (ofTerm u) (.agg #[x, y])
  dn : down t = down u
  good : ok k u = true
  red : redN u = 0
  below : Below w.heap.size w wr

theorem HdRel.step {w wr w4 : World} {b0 k k' : Nat} {t u u' : Term} {x y x1 y1 : Value} (h : HdRel w wr b0 t u k x y) (hb0 : w.heap.size ≤ b0) (hb : Below wr.heap.size wr w4) (hr : RepSF (fun q => q < b0) wr (ofTerm u') (.agg #[x1, y1])) (hd : down u = down u') (ho : ok k' u' = true) (hn : redN u' = 0) :
    HdRel w ((w4.setCell ⟨b0, 0, none⟩ x1).setCell ⟨b0, 1, none⟩ y1) b0 t u' k' x1 y1 := by
  have hlt := h.box.lt
  have h4 := h.box.below hb hlt
  refine ⟨(h4.set_ 0 x1).set_ 1 y1, ?_, h.dn.trans hd, ho, hn, ?_⟩
  · refine RepSF.move ?_ (fun _ h _ => h) _ _ hr
    intro q hq hq2
    rw [Below.heap_setCell _ _ _ _ (by show q ≠ b0; omega), Below.heap_setCell _ _ _ _ (by show q ≠ b0; omega)]
    exact hb.block q hq2
  · exact ((h.below.trans (hb.mono h.below.size)).setCell hb0 _).setCell hb0 _

theorem HdRel.below_ {w wr w4 : World} {b0 k : Nat} {t u : Term} {x y : Value} (h : HdRel w wr b0 t u k x y) (hb : Below wr.heap.size wr w4) : HdRel w w4 b0 t u k x y :=
  ⟨h.box.below hb h.box.lt, RepSF.move (fun q _ hq2 => hb.block q hq2) (fun _ h _ => h) _ _ h.rep, h.dn, h.good, h.red, h.below.trans (hb.mono h.below.size)⟩

end Go.Proofs.YtcbciaofajhklaaGreatDoor
