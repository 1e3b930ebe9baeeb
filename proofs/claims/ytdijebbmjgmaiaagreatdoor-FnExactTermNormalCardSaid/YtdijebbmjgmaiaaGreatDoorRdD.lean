/- The program's redexes: the library's DeleteFunc at the spots, and what it leaves. -/
import Derived.Test.YtdijebbmjgmaiaaGreatDoorRdS
import Derived.Lib.SliceRun
import Derived.Shelf.GgClosure.Gives
set_option linter.unusedSimpArgs false
set_option linter.unusedVariables false
namespace Go.Proofs.YtdijebbmjgmaiaaGreatDoor
open Go.RowKit Rt Go.Sort Go.Lib

set_option maxHeartbeats 800000 in
theorem redexes1_any (F : Nat → Prop) (o : Option Nat) (u : Term) (y : Value) (w : World) (h : SpotAt F w o u y) :
    Calls Tryz.prog 42 #[y] w fun e w' => e = .returned (.bool (!isRed u)) ∧ w' = w := by
  obtain ⟨b, v, rfl, hc, hr, -⟩ := h
  obtain ⟨bv, rfl⟩ := RepPF.ptr u v hr
  have HC := Lib.hid (isRedex_any F u _ w hr)
  clear hr
  go_enter Tryz.func42, Tryz.ntmps42
  go_wp2_with (go_at_call 43; refine HC.out.mono ?_; rintro e w1 ⟨rfl, rfl⟩)
  go_ret
  exact ⟨rfl, rfl⟩

/-- What is kept of a list. -/
def kept : List Value → List Bool → List Value
  | y :: ys, f :: fs => if f then y :: kept ys fs else kept ys fs
  | _, _ => []

theorem kept_nil (fs : List Bool) : kept [] fs = [] := by cases fs <;> rfl

theorem kept_take : ∀ (ys : List Value) (fs : List Bool) (j : Nat) (y : Value) (f : Bool), ys[j]? = some y → fs[j]? = some f → kept (ys.take (j + 1)) (fs.take (j + 1)) = kept (ys.take j) (fs.take j) ++ (if f then [y] else [])
  | [], _, j, y, f, h, _ => by simp at h
  | _ :: _, [], j, y, f, _, h => by simp at h
  | z :: ys, g :: fs, 0, y, f, h1, h2 => by
    simp at h1 h2; subst h1; subst h2
    cases g <;> simp [kept]
  | z :: ys, g :: fs, j + 1, y, f, h1, h2 => by
    have := kept_take ys fs j y f (by simpa using h1) (by simpa using h2)
    rw [List.take_succ_cons, List.take_succ_cons, kept, this, List.take_succ_cons, List.take_succ_cons, kept]
    cases g <;> simp

theorem kept_le : ∀ (ys : List Value) (fs : List Bool), (kept ys fs).length ≤ ys.length
  | [], fs => by rw [kept_nil]; simp
  | y :: ys, [] => by simp [kept]
  | y :: ys, f :: fs => by
    have := kept_le ys fs
    rw [kept]; split <;> simp <;> omega

/-- What holds at the head of DeleteFunc's loop. -/
structure DelRel (w wr : World) (g : Nat) (T : TypeId) (c : Nat) (ys : List Value) (fs : List Bool) (i j : Nat) : Prop where
  le : j ≤ ys.length
  lt : i < j
  len : i = (kept (ys.take j) (fs.take j)).length
  grown : w.grownBy wr (some g)
  ex : ∃ cs, Blk wr g T cs ∧ cs.size = c ∧ (∀ m, m < i → cs[m]? = (kept (ys.take j) (fs.take j))[m]?) ∧ (∀ m, j ≤ m → m < ys.length → cs[m]? = ys[m]?)

/-- What IndexFunc gives: the first place at which the flag is not set (what is kept is flagged). -/
def IdxPost (fs : List Bool) (w : World) (e : Ending) (w' : World) : Prop :=
  w = w' ∧ ((e = .returned (.int .i64 (-1)) ∧ ∀ (m : Nat) (f : Bool), fs[m]? = some f → f = true) ∨ ∃ i, e = .returned (.int .i64 (i : Nat)) ∧ fs[i]? = some false ∧ ∀ (m : Nat) (f : Bool), m < i → fs[m]? = some f → f = true)

set_option maxHeartbeats 1600000 in
theorem indexFunc_any (g c : Nat) (ys : List Value) (fs : List Bool) (w : World) (hl : fs.length = ys.length) (hlen : ys.length ≤ 100000) (hc : Cells w g ys)
    (hd : ∀ (m : Nat) (y : Value) (f : Bool), ys[m]? = some y → fs[m]? = some f → Calls Tryz.prog 42 #[y] w fun e w' => e = .returned (.bool (!f)) ∧ w' = w) :
    Calls Tryz.prog 53 #[.slice (some ⟨g, 0, none⟩) ys.length c, .func (.func 42) #[] #[]] w (IdxPost fs w) := by
  have HC := Lib.hid hc
  have HD := Lib.hid hd
  have HL := Lib.hid hl
  clear hc hd hl
  go_enter Tryz.func53, Tryz.ntmps53
  go_wp2_with fail
  go_loop [8] (fun iv => ∃ j : Nat, j ≤ ys.length ∧ iv = .int .i64 j ∧ Hid (∀ (m : Nat) (f : Bool), m < j → fs[m]? = some f → f = true)) (fun iv => ys.length - (intOf iv).toNat)
  case atStart => exact ⟨0, Nat.zero_le _, rfl, fun m f h => absurd h (by omega)⟩
  case round =>
    obtain ⟨j, hj, rfl, HR⟩ := hrel
    by_cases hlt : j < ys.length
    · obtain ⟨y, hy⟩ : ∃ y, ys[j]? = some y := ⟨_, List.getElem?_eq_getElem hlt⟩
      obtain ⟨f, hf⟩ : ∃ f, fs[j]? = some f := ⟨_, List.getElem?_eq_getElem (by rw [HL.out]; exact hlt)⟩
      have e0 := HC.out j y hy
      have HCALL := Lib.hid (HD.out j y f hy hf)
      have HF := Lib.hid hf
      clear hy hf
      cases f
      · go_wp2_with (go_at_call 42; refine HCALL.out.mono ?_; rintro e w1 ⟨rfl, rfl⟩)
        go_ret
        exact ⟨rfl, .inr ⟨j, rfl, HF.out, HR.out⟩⟩
      · go_wp2_with (go_at_call 42; refine HCALL.out.mono ?_; rintro e w1 ⟨rfl, rfl⟩)
        go_round
        case measure => simp [intOf]; omega
        case rel =>
          refine ⟨j + 1, by omega, by go_num, fun m f hm hf => ?_⟩
          by_cases hmj : m = j
          · subst hmj
            have := HF.out
            rw [hf] at this
            injection this
          · exact HR.out m f (by omega) hf
    · go_wp2_with fail
      go_ret
      refine ⟨rfl, .inl ⟨rfl, fun m f hf => HR.out m f ?_ hf⟩⟩
      have h1 := (List.getElem?_eq_some_iff.1 hf).1
      have h2 := HL.out
      omega

theorem grown_setCells (g : Nat) : ∀ (vs : List Value) (o : Nat) (w : World), w.grownBy (w.setCells g o vs) (some g)
  | [], _, w => ⟨rfl, rfl, rfl, Nat.le_refl _, fun _ _ _ => rfl⟩
  | v :: r, o, w => by
    rw [World.setCells]
    have h1 : w.grownBy (w.setCell ⟨g, o, none⟩ v) (some g) := ⟨rfl, rfl, rfl, by simp, fun b _ hne => Below.heap_setCell _ _ _ b (fun e => hne (by rw [e]))⟩
    exact h1.trans (grown_setCells g r (o + 1) _)

theorem kept_true : ∀ (ys : List Value) (fs : List Bool) (j : Nat), fs.length = ys.length → (∀ (m : Nat) (f : Bool), m < j → fs[m]? = some f → f = true) → kept (ys.take j) (fs.take j) = ys.take j
  | [], fs, j, h, _ => by
    have : fs = [] := by simpa using h
    subst this; simp [kept]
  | y :: ys, [], j, h, _ => by simp at h
  | y :: ys, f :: fs, 0, _, _ => by simp [kept]
  | y :: ys, f :: fs, j + 1, h, k => by
    have hf := k 0 f (by omega) rfl
    subst hf
    have := kept_true ys fs j (by simpa using h) (fun m f hm hf => k (m + 1) f (by omega) (by simpa using hf))
    rw [List.take_succ_cons, List.take_succ_cons, kept, if_pos rfl, this]

theorem zeroSpot (w : World) : (zeroValue 57).run Tryz.prog w = .ok (.pointer none) w := by kernel_rfl

set_option maxHeartbeats 3200000 in
set_option maxRecDepth 100000 in
theorem deleteFunc_any (g c B : Nat) (ys : List Value) (fs : List Bool) (w : World) (hl : fs.length = ys.length) (hlen : ys.length ≤ 100000) (hpos : 0 < ys.length)
    (hown : w.ownsRow B 57 1 (.slice (some ⟨g, 0, none⟩) ys.length c) ys.length ys) (hptr : ∀ (m : Nat) (y : Value), ys[m]? = some y → ∃ b, y = .pointer (some ⟨b, 0, none⟩))
    (hd : ∀ (W : World) (m : Nat) (y : Value) (f : Bool), w.grownBy W (some g) → ys[m]? = some y → fs[m]? = some f → Calls Tryz.prog 42 #[y] W fun e w' => e = .returned (.bool (!f)) ∧ w' = W) :
    Calls Tryz.prog 40 #[.slice (some ⟨g, 0, none⟩) ys.length c, .func (.func 42) #[] #[]] w
      fun e w' => e = .returned (.slice (some ⟨g, 0, none⟩) (kept ys fs).length c) ∧ w.grownBy w' (some g) ∧ Cells w' g (kept ys fs) := by
  obtain ⟨g', e', hBg, hglt, hnc, hcm, hcells⟩ := own_cells hown hpos
  injection e' with e'
  injection e' with e'
  subst e'
  have hIF := indexFunc_any g c ys fs w hl hlen hcells (fun m y f h1 h2 => hd w m y f ⟨rfl, rfl, rfl, Nat.le_refl _, fun _ _ _ => rfl⟩ h1 h2)
  have HIF := Lib.hid hIF
  have HD := Lib.hid hd
  have HL := Lib.hid hl
  have HP := Lib.hid hptr
  have HC := Lib.hid hcells
  obtain ⟨cur, hblk, hcs, htk⟩ : ∃ cur : Array Value, Blk w g 57 cur ∧ cur.size = c ∧ cur.toList.take ys.length = ys := by
    rcases hown.2 with ⟨h, _⟩ | ⟨g2, cap, cur, hv, _, hh, h1, h2, h3, h4⟩
    · simp at h
    · injection hv with e1 e2 e3
      injection e1 with e1
      injection e1 with e1
      subst e1
      subst e3
      exact ⟨cur, hh, by simpa using h3, by simpa using h4⟩
  have HBK := Lib.hid hblk
  have HTK := Lib.hid htk
  have HCS := Lib.hid hcs
  unfold maxLen at hcm
  have ht : (ys.take ys.length) = ys := List.take_of_length_le (Nat.le_refl _)
  have hft : (fs.take ys.length) = fs := List.take_of_length_le (by omega)
  have HT := Lib.hid (And.intro ht hft)
  clear hIF hd hl hptr hcells hblk htk hcs hown ht hft
  have eg : ∀ args w, (callFunc 42 args).run Tryz.prog w = .ok (.enter 42 args) w := enters_of Tryz.func42 (by kernel_rfl) rfl
  go_enter Tryz.func40, Tryz.ntmps40
  go_wp2_with fail
  refine HIF.out.mono ?_
  rintro e w1 ⟨rfl, ⟨rfl, hall⟩ | ⟨i0, rfl, hi0, hall⟩⟩
  · have hk : kept ys fs = ys := by
      have := kept_true ys fs ys.length HL.out (fun m f _ hf => hall m f hf)
      rwa [HT.out.1, HT.out.2] at this
    have HK := Lib.hid hk
    clear hall hk
    go_wp2_with fail
    go_ret
    rw [HK.out]
    exact ⟨rfl, ⟨rfl, rfl, rfl, Nat.le_refl _, fun _ _ _ => rfl⟩, HC.out⟩
  · have hi0lt : i0 < ys.length := by rw [← HL.out]; exact (List.getElem?_eq_some_iff.1 hi0).1
    have hne1 : ((i0 : Int) == -1) = false := beq_eq_false_iff_ne.2 (by omega)
    have HREL : Hid (DelRel w w g 57 c ys fs i0 (i0 + 1)) := by
      obtain ⟨y0, hy0⟩ : ∃ y, ys[i0]? = some y := ⟨_, List.getElem?_eq_getElem hi0lt⟩
      have hk := kept_take ys fs i0 y0 false hy0 hi0
      rw [kept_true ys fs i0 HL.out hall] at hk
      simp only [Bool.false_eq_true, if_false, List.append_nil] at hk
      have hcur : ∀ m, m < ys.length → cur[m]? = ys[m]? := fun m hm => by
        have h1 : (cur.toList.take ys.length)[m]? = ys[m]? := by rw [HTK.out]
        rw [List.getElem?_take_of_lt hm] at h1
        rw [← h1]; simp
      refine ⟨by omega, by omega, by rw [hk, List.length_take]; omega, ⟨rfl, rfl, rfl, Nat.le_refl _, fun _ _ _ => rfl⟩, cur, HBK.out, HCS.out, fun m hm => ?_, fun m _ hm => hcur m hm⟩
      rw [hk, hcur m (by omega), List.getElem?_take_of_lt hm]
    clear hall hi0
    go_wp2_with fail
    go_loopw [5, 6] (fun iv jv wr => ∃ i j : Nat, iv = .int .i64 i ∧ jv = .int .i64 j ∧ j ≤ ys.length ∧ i < j ∧ Hid (DelRel w wr g 57 c ys fs i j)) (fun _ jv _ => ys.length - (intOf jv).toNat)
    case atStart => exact ⟨i0, i0 + 1, rfl, by go_num, by omega, by omega, HREL.out⟩
    case round =>
      obtain ⟨i, j, rfl, rfl, hj, hij, HR⟩ := hrel
      obtain ⟨cs, hb, hcs, hlo, hhi⟩ := HR.out.ex
      by_cases hlt : j < ys.length
      · obtain ⟨y, hy⟩ : ∃ y, ys[j]? = some y := ⟨_, List.getElem?_eq_getElem hlt⟩
        obtain ⟨f, hf⟩ : ∃ f, fs[j]? = some f := ⟨_, List.getElem?_eq_getElem (by rw [HL.out]; exact hlt)⟩
        obtain ⟨by_, rfl⟩ := HP.out j y hy
        have e0 : wr.cell? ⟨g, j, none⟩ = some (.pointer (some ⟨by_, 0, none⟩)) := by rw [hb.cell j, hhi j (Nat.le_refl _) hlt]; exact hy
        obtain ⟨old, hold⟩ : ∃ old, cs[i]? = some old := ⟨_, Array.getElem?_eq_getElem (by omega)⟩
        have e1 : wr.cell? ⟨g, i, none⟩ = some old := by rw [hb.cell i]; exact hold
        have f1 := hb.frozen i
        have HCALL := Lib.hid (HD.out wr j _ f HR.out.grown hy hf)
        have HKT := Lib.hid (kept_take ys fs j _ f hy hf)
        have HHB := Lib.hid (And.intro hb (And.intro hcs (And.intro hlo hhi)))
        clear hb hcs hlo hhi hy hf hold
        cases f
        · go_wp2_with (go_at_fn 42; refine HCALL.out.mono ?_; rintro e w1 ⟨rfl, rfl⟩)
          go_roundw
          case measure => simp [intOf]; omega
          case rel =>
            refine ⟨i, j + 1, rfl, by go_num, by omega, by omega, ?_⟩
            obtain ⟨hb, hcs, hlo, hhi⟩ := HHB.out
            have hk := HKT.out
            simp only [Bool.false_eq_true, if_false, List.append_nil] at hk
            refine ⟨by omega, by omega, by rw [hk]; exact HR.out.len, HR.out.grown, cs, hb, hcs, fun m hm => by rw [hk]; exact hlo m hm, fun m hm hm2 => hhi m (by omega) hm2⟩
        · go_wp2_with (go_at_fn 42; refine HCALL.out.mono ?_; rintro e w1 ⟨rfl, rfl⟩)
          go_roundw
          case measure => simp [intOf]; omega
          case rel =>
            refine ⟨i + 1, j + 1, by go_num, by go_num, by omega, by omega, ?_⟩
            obtain ⟨hb, hcs, hlo, hhi⟩ := HHB.out
            have hk := HKT.out
            simp only [if_true] at hk
            have hln := HR.out.len
            have hG : w1.grownBy (w1.setCell ⟨g, i, none⟩ (.pointer (some ⟨by_, 0, none⟩))) (some g) := ⟨rfl, rfl, rfl, by simp, fun b _ hne => Below.heap_setCell _ _ _ b (fun e => hne (by rw [e]))⟩
            refine ⟨by omega, by omega, by rw [hk, List.length_append, ← hln]; rfl, HR.out.grown.trans hG, _, hb.set_ i _, by simpa using hcs, fun m hm => ?_, fun m hm hm2 => ?_⟩
            · rw [hk]
              by_cases hmi : m = i
              · subst hmi
                rw [Array.getElem?_setIfInBounds, if_pos rfl, if_pos (by omega), List.getElem?_append_right (by omega), hln]; simp
              · rw [Array.getElem?_setIfInBounds, if_neg (fun e => hmi e.symm), hlo m (by omega), List.getElem?_append_left (by omega)]
            · rw [Array.getElem?_setIfInBounds, if_neg (by omega), hhi m (by omega) hm2]
      · have hje : j = ys.length := by omega
        subst hje
        have hk : i = (kept ys fs).length := by
          have := HR.out.len
          rwa [HT.out.1, HT.out.2] at this
        have hcl : ∀ ty, (Builtin.clear_ #[43] ty #[.slice (some ⟨g, i, none⟩) (ys.length - i) (c - i)]).run Tryz.prog wr = .ok (.tuple #[]) (wr.setCells g i (List.replicate (ys.length - i) (.pointer none))) := fun ty =>
          Lib.run_clear_slice wr _ _ ty _ Tryz.underlying43 zeroSpot rfl rfl g i _ _ (by omega) (fun t ht => by rw [hb.cell, Array.getElem?_eq_getElem (by omega)]; rfl) (fun t ht => hb.frozen _)
        have HHB := Lib.hid (And.intro hb hlo)
        have HK := Lib.hid hk
        clear hb hcs hlo hhi hk
        go_wp2_with fail
        go_ret
        rw [← HK.out]
        refine ⟨rfl, HR.out.grown.trans (grown_setCells g _ _ _), fun m y hy => ?_⟩
        have hm : m < i := by rw [HK.out]; exact (List.getElem?_eq_some_iff.1 hy).1
        rw [World.cell?_setCells_out g _ _ _ _ (fun _ _ => .inl hm), HHB.out.1.cell m, HHB.out.2 m hm, HT.out.1, HT.out.2]
        exact hy

theorem Spots.keep {F : Nat → Prop} {w : World} {o : Option Nat} : ∀ (us : List Term) (ys : List Value), Spots F w o us ys → Spots F w o (us.filter isRed) (kept ys (us.map isRed))
  | [], _, h => by cases h; exact rfl
  | u :: us, _, ⟨y, r, e, h, k⟩ => by
    subst e
    have := Spots.keep us r k
    rw [List.map_cons, kept, List.filter_cons]
    cases hu : isRed u
    · rw [if_neg (by simp), if_neg (by simp)]; exact this
    · rw [if_pos rfl, if_pos rfl]; exact ⟨y, _, rfl, h, this⟩

/-- What redexes gives. -/
def RedPost (F : Nat → Prop) (w : World) (t : Term) (e : Ending) (w' : World) : Prop :=
  Below w.heap.size w w' ∧ ∃ g c ys, e = .returned (.slice (some ⟨g, 0, none⟩) (redN t) c) ∧ w.heap.size ≤ g ∧ Cells w' g ys ∧ Spots F w' (some g) ((subs t).filter isRed) ys

set_option maxHeartbeats 800000 in
theorem redexes_any (F : Nat → Prop) (t : Term) (v : Value) (w : World) (hz : size t ≤ 9000) (hF : ∀ q, F q → q < w.heap.size) (hv : RepPF F w t v) :
    Calls Tryz.prog 30 #[v] w (RedPost F w t) := by
  obtain ⟨b, rfl⟩ := RepPF.ptr t v hv
  have HS := Lib.hid (spots_any F t _ w hz hF hv)
  have HF := Lib.hid hF
  have hsp := size_pos t
  clear hv hF
  go_enter Tryz.func30, Tryz.ntmps30
  go_wp2_with fail
  refine HS.out.mono ?_
  rintro e w2 ⟨hb, g, c, ys, rfl, hown, hsp2⟩
  have hyl : ys.length = size t := by rw [Spots.length _ _ hsp2, subs_size]
  have hgB : w.heap.size ≤ g := (own_block_lt hown g rfl).1
  have hFg : ∀ k, F k → some k ≠ some g := fun k hk e => by
    injection e with e
    have := HF.out k hk
    omega
  have hdel := deleteFunc_any g c w.heap.size ys ((subs t).map isRed) w2 (by rw [List.length_map, subs_size, hyl]) (by omega) (by omega) (by rw [hyl]; exact hown)
    (fun m y hy => by
      have hm := (List.getElem?_eq_some_iff.1 hy).1
      obtain ⟨u, hu⟩ : ∃ u, (subs t)[m]? = some u := ⟨_, List.getElem?_eq_getElem (by rw [subs_size]; omega)⟩
      obtain ⟨y2, hy2, b, v, e, _⟩ := Spots.at _ _ m u hsp2 hu
      rw [hy] at hy2
      injection hy2 with hy2
      exact ⟨b, hy2.trans e⟩)
    (fun W m y f hW hy hf => by
      rw [List.getElem?_map] at hf
      obtain ⟨u, hu, rfl⟩ := Option.map_eq_some_iff.1 hf
      obtain ⟨y2, hy2, h2⟩ := Spots.at _ _ m u hsp2 hu
      rw [hy] at hy2
      injection hy2 with hy2
      subst hy2
      exact redexes1_any F (some g) u _ W (SpotAt.go h2 hW (.inl rfl) hFg))
  rw [hyl] at hdel
  have hkl : (kept ys ((subs t).map isRed)).length = redN t := by
    rw [Spots.length _ _ (Spots.keep _ _ hsp2), subs_red]
  rw [hkl] at hdel
  have HD := Lib.hid hdel
  have HX := Lib.hid (And.intro hb (And.intro hsp2 hFg))
  clear hb hown hsp2 hdel hkl hFg hyl
  go_wp2_with fail
  refine HD.out.mono ?_
  rintro e w3 ⟨rfl, hg3, hc3⟩
  have HE := Lib.hid (And.intro hg3 hc3)
  clear hg3 hc3
  go_wp2_with fail
  go_ret
  refine ⟨HX.out.1.grown HE.out.1 HX.out.1.size (fun k hk => by injection hk with hk; omega), g, c, _, rfl, hgB, HE.out.2, Spots.keep _ _ (Spots.go HE.out.1 (.inl rfl) HX.out.2.2 _ _ HX.out.2.1)⟩

end Go.Proofs.YtdijebbmjgmaiaaGreatDoor
