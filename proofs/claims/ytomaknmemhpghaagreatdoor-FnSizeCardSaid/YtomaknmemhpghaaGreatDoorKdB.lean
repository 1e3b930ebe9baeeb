/- The program's TermKids. -/
import Derived.Test.YtomaknmemhpghaaGreatDoorKdA
import Derived.Test.YtomaknmemhpghaaGreatDoorBsC
import Derived.Test.YtomaknmemhpghaaGreatDoorOpA
import Derived.Deep.Onto
import Derived.Deep.RegionHeld3
import Derived.Test.YtomaknmemhpghaaGreatDoorSpecK
namespace Go.Proofs.YtomaknmemhpghaaGreatDoor
open Go.RowKit Rt Go.Lib
open Go.ChangeMaps Go.MapKept Go.Maps Go.WideMaps

def sK0 : B := [107, 48]

theorem k0_name : isName sK0 = true := by decide

/-- The text of a term as bytes of the memory. -/
def tb (t : Term) : ByteArray := ⟨(text t).toArray⟩

theorem reads_own {w3 W : World} {B n c : Nat} {A : Option Addr} {xs : List Value} (h : w3.ownsRow B 9 1 (.slice A n c) n xs) (hW : Below w3.heap.size w3 W) : Reads W w3.heap.size 1 A n xs := by
  refine ⟨h.1, fun hn => ?_⟩
  obtain ⟨g, rfl, p1, p2, -, -, p5⟩ := own_cells h hn
  refine ⟨_, rfl, p2, fun j u hu => ?_⟩
  rw [Addr.add_lit, Nat.zero_add, hW.cell (p := ⟨g, j, none⟩) p2]
  exact p5 j u hu

/-- What TermKids tells. -/
def kidsRes (l : B) : List ByteArray × Bool := match termOf l with
  | some (.lam t) => ([⟨#[108, 97, 109]⟩, tb (sort (swp (lOpen sK0) 0 t))], true)
  | some (.app t b) => (⟨#[97, 112, 112]⟩ :: tb t :: b.map tb, true)
  | some _ => ([], true)
  | none => ([], false)

/-- What is given: a row of texts of the call's own. -/
def KidsPost (w : World) (r : List ByteArray × Bool) (e : Ending) (w' : World) : Prop :=
  Below w.heap.size w w' ∧ ∃ A c, e = .returned (.tuple #[.slice A r.1.length c, .bool r.2]) ∧ w'.ownsRow w.heap.size 9 1 (.slice A r.1.length c) r.1.length (strv r.1)

theorem KidsPost.mk {w w' : World} {r : List ByteArray × Bool} {e : Ending} {A : Option Addr} {c n B : Nat} {b : Bool} (ss : List ByteArray) (hr : r = (ss, b)) (hn : ss.length = n) (hb : Below w.heap.size w w') (hB : w.heap.size ≤ B)
    (hown : w'.ownsRow B 9 1 (.slice A n c) n (strv ss)) (he : e = .returned (.tuple #[.slice A n c, .bool b])) : KidsPost w r e w' := by
  subst hr; subst hn
  exact ⟨hb, A, c, he, hown.mono hB⟩

set_option maxHeartbeats 1600000 in
set_option maxRecDepth 100000 in
theorem implTermKids (s : ByteArray) (hs : s.size ≤ maxLen) (w : World) :
    Calls Tryz.prog 24 #[.string s] w (KidsPost w (kidsRes s.data.toList)) := by
  obtain ⟨i0, hi0, hz0, hz1, hz2⟩ := info_parts text_info
  have HC : Hid (∀ w1, Pool (fun _ => False) w1 (w.heap.size + 1) w.heap.size 0 (.map []) → Calls Tryz.prog 52 #[.pointer (some ⟨w.heap.size + 1, 0, none⟩), .string s] w1 (PartPost (fun _ => False) w1 (w.heap.size + 1) w.heap.size 0 4000 (termOf s.data.toList))) :=
    fun w1 hP => read_any _ _ _ 0 _ s hs w1 (by omega) hP
  have HT : Hid (kidsRes s.data.toList = match termOf s.data.toList with | some (.lam t) => ([⟨#[108, 97, 109]⟩, tb (sort (swp (lOpen sK0) 0 t))], true) | some (.app t b) => (⟨#[97, 112, 112]⟩ :: tb t :: b.map tb, true) | some _ => ([], true) | none => ([], false)) := rfl
  have HOK : Hid (∀ t, termOf s.data.toList = some t → ok 0 t = true ∧ size t ≤ 60) := fun t h => termOf_ok _ t h
  have HST : Hid (∀ t, termOf s.data.toList = some t → sort t = t) := fun t h => (termOf_sorted _ t h).1
  generalize kidsRes s.data.toList = x at HT ⊢
  generalize termOf s.data.toList = r at HC HT HOK HST
  go_enter Tryz.func24, Tryz.ntmps24
  go_wp2_with fail
  refine (newTermPool_any _).mono ?_
  rintro e w1 ⟨rfl, hb1, hz, hP⟩
  have HB1 := Lib.hid hb1
  have HC1 := Lib.hid (HC.out w1 hP)
  have hw1 : w.heap.size ≤ w1.heap.size := hb1.size
  clear hb1 hP hz
  go_wp2_with fail
  refine HC1.out.mono ?_
  intro e w2 hq
  cases r with
  | none =>
    obtain ⟨hg, rfl⟩ := hq
    have hs2 : w.heap.size ≤ w2.heap.size := Nat.le_trans hw1 hg.size
    have HG := Lib.hid hg
    clear hg
    go_wp2_with fail
    go_ret2
    exact KidsPost.mk [] HT.out rfl ((below_pool HB1.out HG.out).alloc hs2 _) hs2 (own_new w2 9 #[] 0 1 w2.heap.size (Nat.le_refl _) rfl (by decide)) rfl
  | some T =>
    obtain ⟨hg, v, D, n, rfl, hn, hv, hP⟩ := hq
    obtain ⟨o1, o2⟩ := HOK.out T rfl
    have hs2 : w.heap.size ≤ w2.heap.size := Nat.le_trans hw1 hg.size
    cases T with
    | lam t =>
      obtain ⟨bv, _, _, _, rfl, h6, -⟩ := RepPF.head _ _ hv
      obtain ⟨c0, -⟩ := h6
      have c0' : w2.cell? ⟨bv, 0, none⟩ = some (.int .i64 2) := c0
      have HG := Lib.hid hg
      have o1' : ok 1 t = true := by rw [ok] at o1; exact o1
      have HS1 : Hid (sort t = t) := lam_sorted (HST.out _ rfl)
      have o3 : size t ≤ 59 := by rw [Rt.size] at o2; omega
      have HR := Lib.hid (open_any _ t sK0 _ _ _ n D w2 k0_name (by omega) o1' HS1.out (by omega) hv hP)
      have HX : Hid (x = ([⟨#[108, 97, 109]⟩, tb (sort (swp (lOpen sK0) 0 t))], true)) := HT.out
      generalize sort (swp (lOpen sK0) 0 t) = r at HR HX
      clear hg hv hP o1 o1' c0
      go_wp2_with (go_at_call 61; refine HR.out.mono ?_; rintro e w4 ⟨hg4, v4, D4, n4, rfl, -, hv4, -⟩; obtain ⟨b4, i4, fp4, q4, rfl, h64, -⟩ := RepPF.head _ _ hv4; obtain ⟨-, c41, -, -⟩ := h64; rw [st_eq] at c41; have HG4 := Lib.hid hg4; have hs4 : w.heap.size ≤ w4.heap.size := Nat.le_trans hs2 hg4.size; clear hg4 hv4)
      go_ret2
      exact KidsPost.mk [⟨#[108, 97, 109]⟩, tb r] HX.out rfl ((below_pool HB1.out (HG.out.trans HG4.out)).alloc hs4 _) hs4 (own_new w4 9 #[.string ⟨#[108, 97, 109]⟩, .string ⟨(text r).toArray⟩] 2 1 w4.heap.size (Nat.le_refl _) rfl (by decide)) rfl
    | app t l =>
      rw [RepPF] at hv
      obtain ⟨bv, p, q, xs, rfl, h6, h7, h8, h9, -⟩ := hv
      obtain ⟨c0, -, -, -, c4, c5, -⟩ := h6
      have c0' : w2.cell? ⟨bv, 0, none⟩ = some (.int .i64 3) := c0
      obtain ⟨bt, _, _, _, rfl, ⟨-, d1, -⟩, -⟩ := RepPF.head _ _ h7
      rw [st_eq] at d1
      have hll : l.length ≤ 60 := by have := bag_short l; rw [Rt.size] at o2; omega
      have HB : Hid (∀ W, Below w2.heap.size w2 W → Calls Tryz.prog 62 #[q] W (TextsPost W l)) := by
        intro W hW
        have hal0 := below_alike (F := fun k => False ∨ w1.heap.size ≤ k) hW
        refine bagTexts_any _ l q xs _ (by omega) ?_ (RepPsF.move hal0 (fun _ h _ => h) _ _ h9)
        obtain ⟨A, c, e1, e2, e3, e4⟩ := h8
        refine ⟨A, c, e1, e2, e3, fun hn => ?_⟩
        obtain ⟨g, e5, e6, e7⟩ := e4 hn
        exact ⟨g, e5, hal0.cells e7 e6, e7⟩
      have HG := Lib.hid hg
      have HX : Hid (x = (⟨#[97, 112, 112]⟩ :: tb t :: l.map tb, true)) := HT.out
      have HL : Hid ((tx l).length = l.length * 1) := tx_len l
      have HB2 := Lib.hid (below_pool HB1.out hg)
      have d1' : w2.cell? ⟨bt, 1, none⟩ = some (.string (tb t)) := d1
      have HN : Hid (((⟨#[97, 112, 112]⟩ : ByteArray) :: tb t :: l.map tb).length = 2 + l.length) := by show _ = _; simp; omega
      have HV : Hid (strv ((⟨#[97, 112, 112]⟩ : ByteArray) :: tb t :: l.map tb) = [.string ⟨#[97, 112, 112]⟩, .string (tb t)] ++ tx l) := by show _ = _; simp [strv, tx, tb, Function.comp_def]
      generalize ((⟨#[97, 112, 112]⟩ : ByteArray) :: tb t :: l.map tb) = ss at HX HN HV
      generalize tb t = tt at *
      have lbv := World.block_lt_of_cell? w2 _ c4
      have lbt := World.block_lt_of_cell? w2 _ d1'
      clear hg hP h7 h8 h9 o1 c0 d1
      go_wp2_with fail
      go_region_held3 (fun w' => w'.cell? ⟨bv, 5, none⟩ = some (.pointer (some ⟨bt, 0, none⟩)) ∧ w'.cell? ⟨bt, 1, none⟩ = some (.string tt) ∧ w'.cell? ⟨bv, 6, none⟩ = some q)
        (first
          | go_keep
          | (go_split_ands
             refine ⟨?_, ?_, ?_⟩
             · (first | exact (hb4.cell (p := ⟨bv, 5, none⟩) lbv).trans c4 | exact (hb3.cell (p := ⟨bv, 5, none⟩) lbv).trans c4)
             · (first | exact (hb4.cell (p := ⟨bt, 1, none⟩) lbt).trans d1' | exact (hb3.cell (p := ⟨bt, 1, none⟩) lbt).trans d1')
             · (first | exact (hb4.cell (p := ⟨bv, 6, none⟩) lbv).trans c5 | exact (hb3.cell (p := ⟨bv, 6, none⟩) lbv).trans c5)))
        (first
          | (go_at_call 62; refine (HB.out _ (by go_grown)).mono ?_; rintro e w3 ⟨q1, g, c, rfl, q2⟩; have hb3 : Below w2.heap.size w2 w3 := Below.trans (by go_grown) (q1.mono (by simp)); have hsz3 := hb3.size; have HRD : Hid (∀ W, Below w3.heap.size w3 W → Reads W w3.heap.size 1 (some ⟨g, 0, none⟩) l.length (tx l)) := fun W hW => reads_own q2 hW; (try have hown3 : w3.ownsRow w2.heap.size 9 1 (.slice (some ⟨w2.heap.size, 0, none⟩) 2 2) 2 [.string ⟨#[97, 112, 112]⟩, .string tt] := (by first | exact own_go (w := (w2.alloc (.cells #[.string ⟨#[97, 112, 112]⟩, .string tt] 9)).drew) (own_new w2 9 #[.string ⟨#[97, 112, 112]⟩, .string tt] 2 1 w2.heap.size (Nat.le_refl _) rfl (by decide)).drew q1 | exact own_go (own_new w2 9 #[.string ⟨#[97, 112, 112]⟩, .string tt] 2 1 w2.heap.size (Nat.le_refl _) rfl (by decide)) q1)))
          | (refine step_append_any _ (by rfl) (.tmp 39) (.tmp 44) 29 (by rfl) w2.heap.size 9 i0 (.string ⟨#[]⟩) 1 16 Tryz.underlying29 hi0 hz0 hz1 hz2 rfl (Nat.succ_pos 0) (.slice (some ⟨w2.heap.size, 0, none⟩) 2 2) 2 [.string ⟨#[97, 112, 112]⟩, .string tt] (by rfl) hown3 _ (some ⟨g, 0, none⟩) l.length c (tx l) (by rfl) (HRD.out _ (by go_grown)) (tx_one l) (by unfold maxLen; omega) (by omega) hb3.size ?_; intro v4 w4 hown4 hgrow4 hat4; have hb4 : Below w2.heap.size w2 w4 := Below.grown hb3 hgrow4 hb3.size (by intro k hk; exact (own_block_lt hown3 k hk).1))
          | (refine step_append_any _ (by rfl) (.tmp 39) (.tmp 44) 29 (by rfl) w2.heap.size 9 i0 (.string ⟨#[]⟩) 1 16 Tryz.underlying29 hi0 hz0 hz1 hz2 rfl (Nat.succ_pos 0) (.slice (some ⟨w3.heap.size, 0, none⟩) 2 2) 2 [.string ⟨#[97, 112, 112]⟩, .string tt] (by rfl) (by first | exact own_new w3 9 #[.string ⟨#[97, 112, 112]⟩, .string tt] 2 1 w2.heap.size hb3.size rfl (by decide) | exact (own_new w3 9 #[.string ⟨#[97, 112, 112]⟩, .string tt] 2 1 w2.heap.size hb3.size rfl (by decide)).drew) _ (some ⟨g, 0, none⟩) l.length c (tx l) (by rfl) (HRD.out _ (by go_grown)) (tx_one l) (by unfold maxLen; omega) (by omega) (by simp; omega) ?_; intro v4 w4 hown4 hgrow4 hat4; have hb4 : Below w2.heap.size w2 w4 := Below.grown (hb3.alloc hb3.size _) hgrow4 (by simp; omega) (by intro k hk; simp [Value.ownBlock] at hk; omega)))
      all_goals
        obtain ⟨A4, c4', rfl⟩ := own_shape hown4
        have HB4 := Lib.hid (HB2.out.trans (hb4.mono hs2))
        rw [← HV.out] at hown4
        have HO4 := Lib.hid hown4
        clear hown4 hgrow4 hat4 hb4 hb3
        go_wp2_with fail
        go_ret2
        exact KidsPost.mk ss HX.out HN.out HB4.out hs2 HO4.out rfl
    | nm a =>
      obtain ⟨bv, _, _, _, rfl, h6, -⟩ := RepPF.head _ _ hv
      obtain ⟨c0, -⟩ := h6
      have c0' : w2.cell? ⟨bv, 0, none⟩ = some (.int .i64 0) := c0
      have HG := Lib.hid hg
      clear hg hv hP o1 c0
      go_wp2_with fail
      go_ret2
      exact KidsPost.mk [] HT.out rfl ((below_pool HB1.out HG.out).alloc hs2 _) hs2 (own_new w2 9 #[] 0 1 w2.heap.size (Nat.le_refl _) rfl (by decide)) rfl
    | ix i =>
      obtain ⟨bv, _, _, _, rfl, h6, -⟩ := RepPF.head _ _ hv
      obtain ⟨c0, -⟩ := h6
      have c0' : w2.cell? ⟨bv, 0, none⟩ = some (.int .i64 1) := c0
      have HG := Lib.hid hg
      clear hg hv hP o1 c0
      go_wp2_with fail
      go_ret2
      exact KidsPost.mk [] HT.out rfl ((below_pool HB1.out HG.out).alloc hs2 _) hs2 (own_new w2 9 #[] 0 1 w2.heap.size (Nat.le_refl _) rfl (by decide)) rfl

end Go.Proofs.YtomaknmemhpghaaGreatDoor
