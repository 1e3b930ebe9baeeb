/- The model's l5Join: nothing, atoms and lam. -/
import Derived.Test.YtopmkddmllmecaaGreatDoorCoM
set_option linter.unusedSimpArgs false
set_option linter.unusedVariables false
namespace Go.Proofs.YtopmkddmllmecaaGreatDoor
open Go.RowKit Rt Go.Lib

/-- What l5Join gives. -/
def JPost (w : World) (j : Jt) (e : Ending) (w' : World) : Prop :=
  Below w.heap.size w w' ∧ ∃ v, e = .returned v ∧ RepSF (fun q => w.heap.size ≤ q) w' (jtree j) v

def JSaid (l : List Term) (j : Jt) : Prop := ∀ (v : Value) (xs : List Value) (w : World), TRow w v l xs → Calls Tryz.prog 64 #[v] w (JPost w j)

set_option maxHeartbeats 800000 in
set_option maxRecDepth 100000 in
theorem join_un : JSaid [] .un := by
  intro v xs w ⟨⟨A, c, hv, _⟩, _⟩
  subst hv
  have hX := Blk.new w 84 #[.string ⟨#[]⟩, .slice none 0 0]
  obtain ⟨q0, q1, z0, z1⟩ := blk_cells hX
  show Calls Tryz.prog 64 #[.slice A 0 c] w _
  clear hX
  go_enter Tryz.func64, Tryz.ntmps64
  go_wp2_with fail
  all_goals
    refine bodyPost_ret (v := .agg #[.string ⟨#[117, 48]⟩, .slice none 0 0]) ?_ rfl ?_
    · simp [results, Tryz.results64, go_sem]
    · exact ⟨by go_grown, _, rfl, by rw [jtree, RepSF]; rfl⟩

set_option maxHeartbeats 1600000 in
set_option maxRecDepth 100000 in
theorem join_at (l : List Term) (s : B) (hs : s ≠ []) (hl : l ≠ []) (hN : l.length ≤ 100000000) (h : ∀ t ∈ l, atomT t = some s) : JSaid l (.at s) := by
  intro v xs w ⟨⟨A, c, hv, hrow⟩, hrf⟩
  subst hv
  have hlp : 0 < l.length := by cases l with | nil => exact absurd rfl hl | cons a l => simp
  obtain ⟨g, rfl, hcs⟩ := hrow hlp
  have ht : ∃ t, l[0]? = some t := ⟨l[0], List.getElem?_eq_getElem hlp⟩
  obtain ⟨t, ht⟩ := ht
  have hat := h t (List.mem_of_getElem? ht)
  obtain ⟨x, y, e1, e2, hr⟩ := RepF.at _ xs 0 (ofTerm t) hrf (ofTerms_at l 0 t ht)
  have ho : ofTerm t = .atom s := by
    cases t with
    | nm a => simp [atomT] at hat; subst hat; rfl
    | ix a => simp [atomT] at hat; subst hat; rfl
    | lam t => simp [atomT] at hat
    | app t l => simp [atomT] at hat
  rw [ho] at hr
  obtain ⟨rfl, rfl⟩ := repS_atom hr
  have d1 := hcs (0 * 2) _ e1
  have d2 := hcs (0 * 2 + 1) _ e2
  simp only [Nat.zero_mul, Nat.zero_add] at d1 d2
  have p1 := cell_alloc d1
  have p2 := cell_alloc d2
  have hX := Blk.new w 84 #[.string ⟨#[]⟩, .slice none 0 0]
  obtain ⟨q0, q1, z0, z1⟩ := blk_cells hX
  have hn0 : ((l.length : Int) == 0) = false := by simpa using hl
  have hpos : (0 : Int) < (l.length : Int) := by omega
  have hgw : g < w.heap.size := World.block_lt_of_cell? w _ d1
  generalize l.length = N at *
  clear hX hcs hrow hrf hr h hat e1 e2 ht ho d1 d2
  rw [st_eq] at p1
  cases s with
  | nil => exact absurd rfl hs
  | cons a s =>
    go_enter Tryz.func64, Tryz.ntmps64
    go_wp2_with fail
    all_goals
      refine bodyPost_ret (v := .agg #[.string ⟨(a :: s).toArray⟩, .slice none 0 0]) ?_ rfl ?_
      · simp [results, Tryz.results64, go_sem]
      · exact ⟨by go_grown, _, rfl, by rw [jtree, RepSF]; rfl⟩

end Go.Proofs.YtopmkddmllmecaaGreatDoor
