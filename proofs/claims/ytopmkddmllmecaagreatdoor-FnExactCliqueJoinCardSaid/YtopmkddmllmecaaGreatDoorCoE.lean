/- The program's joints: what they are in memory, and coherent, size and text of each. -/
import Derived.Test.YtopmkddmllmecaaGreatDoorCoA
import Derived.Test.YtopmkddmllmecaaGreatDoorSpecA
import Derived.Deep.RegionWith
import Derived.Deep.DeepCutAuto
import Derived.Handy
set_option linter.unusedSimpArgs false
set_option linter.unusedVariables false
namespace Go.Proofs.YtopmkddmllmecaaGreatDoor
open Go.RowKit Rt Go.Lib

/-- A joint as a value of the program's interface. -/
def jval : Jt → Value
  | .un => .iface 127 (.agg #[])
  | .at s => .iface 264 (.agg #[st s])
  | .lam j => .iface 260 (.agg #[jval j])
  | .app j k => .iface 262 (.agg #[jval j, jval k])

/-- The type of a joint. -/
def jty : Jt → TypeId
  | .un => 127
  | .at _ => 264
  | .lam _ => 260
  | .app _ _ => 262

/-- What a joint holds. -/
def jag : Jt → Value
  | .un => .agg #[]
  | .at s => .agg #[st s]
  | .lam j => .agg #[jval j]
  | .app j k => .agg #[jval j, jval k]

theorem jval_eq (j : Jt) : jval j = .iface (jty j) (jag j) := by cases j <;> rfl

/-- The function that a joint's coherent is. -/
def cohF : Jt → Nat
  | .un => 227
  | .at _ => 241
  | .lam _ => 230
  | .app _ _ => 231
def sizeF : Jt → Nat
  | .un => 228
  | .at _ => 242
  | .lam _ => 237
  | .app _ _ => 239
def textF : Jt → Nat
  | .un => 229
  | .at _ => 243
  | .lam _ => 238
  | .app _ _ => 240

theorem jty_un : jty .un = 127 := rfl
theorem jag_un : jag .un = .agg #[] := rfl
theorem cohF_un : cohF .un = 227 := rfl
theorem sizeF_un : sizeF .un = 228 := rfl
theorem textF_un : textF .un = 229 := rfl
theorem jty_at (s : B) : jty (.at s) = 264 := rfl
theorem jag_at (s : B) : jag (.at s) = .agg #[st s] := rfl
theorem cohF_at (s : B) : cohF (.at s) = 241 := rfl
theorem sizeF_at (s : B) : sizeF (.at s) = 242 := rfl
theorem textF_at (s : B) : textF (.at s) = 243 := rfl
theorem jty_lam (j : Jt) : jty (.lam j) = 260 := rfl
theorem jag_lam (j : Jt) : jag (.lam j) = .agg #[jval j] := rfl
theorem cohF_lam (j : Jt) : cohF (.lam j) = 230 := rfl
theorem sizeF_lam (j : Jt) : sizeF (.lam j) = 237 := rfl
theorem textF_lam (j : Jt) : textF (.lam j) = 238 := rfl
theorem jty_app (j k : Jt) : jty (.app j k) = 262 := rfl
theorem jag_app (j k : Jt) : jag (.app j k) = .agg #[jval j, jval k] := rfl
theorem cohF_app (j k : Jt) : cohF (.app j k) = 231 := rfl
theorem sizeF_app (j k : Jt) : sizeF (.app j k) = 239 := rfl
theorem textF_app (j k : Jt) : textF (.app j k) = 240 := rfl

theorem call_coh (j : Jt) (v : Value) (w : World) : Sem.run Tryz.prog (callFunc (cohF j) #[jag j, v]) w = .ok (.enter (cohF j) #[jag j, v]) w := by
  cases j <;> kernel_rfl

/-- What coherent tells: a joint with the term, or that there is none. -/
def CohR (r : Option Jt) (j : Jt) (o : Bool) : Prop := (o = true → r = some j) ∧ (o = false → r = none)

/-- What coherent gives. -/
def CohPost (w : World) (r : Option Jt) (e : Ending) (w' : World) : Prop :=
  Below w.heap.size w w' ∧ ∃ j o, e = .returned (.tuple #[.iface (jty j) (jag j), .bool o]) ∧ CohR r j o

theorem meth_coh (j : Jt) (w : World) : Sem.run Tryz.prog (method 365 (jty j) (jag j) "loop.example/resourceterms/impl.coherent") w = .ok (cohF j, jag j) w := by
  cases j <;> kernel_rfl
theorem nil_coh (j : Jt) (w : World) : Sem.run Tryz.prog (nilAhead 365 (jty j) (jag j) "loop.example/resourceterms/impl.coherent") w = .ok (some false) w := by
  cases j <;> kernel_rfl
theorem meth_size (j : Jt) (w : World) : Sem.run Tryz.prog (method 365 (jty j) (jag j) "loop.example/resourceterms/impl.size") w = .ok (sizeF j, jag j) w := by
  cases j <;> kernel_rfl
theorem meth_text (j : Jt) (w : World) : Sem.run Tryz.prog (method 365 (jty j) (jag j) "loop.example/resourceterms/impl.text") w = .ok (textF j, jag j) w := by
  cases j <;> kernel_rfl

def CohSaid (t : Term) (j : Jt) : Prop := ∀ (F : Nat → Prop) (m : Nat) (v : Value) (w : World), jshort j → ok m t = true → RepPF F w t v → Calls Tryz.prog (cohF j) #[jag j, v] w (CohPost w (jadd t j))

theorem text_head (t : Term) (h : atomT t = none) : (text t).head? = some 40 := by
  cases t with
  | nm s => simp [atomT] at h
  | ix n => simp [atomT] at h
  | lam t => rfl
  | app t l => rfl
theorem text_atom (t : Term) (s : B) (h : atomT t = some s) : text t = s := by
  cases t with
  | nm a => simpa [atomT, text, ofTerm, textT] using h
  | ix n => simpa [atomT, text, ofTerm, textT] using h
  | lam t => simp [atomT] at h
  | app t l => simp [atomT] at h
theorem jadd_at (t : Term) (s : B) : jadd t (.at s) = if atomT t = some s then some (.at s) else none := by
  cases t with
  | nm a => simp [jadd, atomT]
  | ix n => simp [jadd, atomT]
  | lam t => simp [jadd, atomT]
  | app t l => simp [jadd, atomT]
theorem atomT_kind (t : Term) : atomT t = none ↔ kindOf t = 2 ∨ kindOf t = 3 := by
  cases t <;> simp [atomT, kindOf]

set_option maxHeartbeats 800000 in
set_option maxRecDepth 100000 in
theorem coh_at (t : Term) (s : B) : CohSaid t (.at s) := by
  intro F m v w hj ho hr
  obtain ⟨b, i, p, l, rfl, h6, -⟩ := RepPF.head _ _ hr
  obtain ⟨c0, c1, -, -, -, -, -, -⟩ := h6
  have hlt : b < w.heap.size := World.block_lt_of_cell? w _ c1
  have hX := Blk.new w 264 #[st s]
  have hres : CohR (jadd t (.at s)) (.at s) (text t == s) := by
    have h2 : atomT t = some s ↔ text t = s := by
      constructor
      · exact text_atom t s
      · intro he
        cases ha : atomT t with
        | none => exact absurd (by rw [← he]; exact text_head t ha) hj.2.2
        | some a => rw [← he, text_atom t a ha]
    rw [jadd_at]
    constructor
    · intro he
      rw [if_pos (h2.2 (by simpa using he))]
    · intro he
      rw [if_neg (fun h => by have := h2.1 h; simp [this] at he)]
  have HR := Lib.hid hres
  clear hr hres
  rw [st_eq] at hX
  show Calls Tryz.prog 241 #[.agg #[st s], _] w _
  rw [st_eq] at c1 ⊢
  go_enter Tryz.func241, Tryz.ntmps241
  go_wp2_with fail
  have d1 := cell_alloc c1
  go_region
  all_goals (try go_wp2_with fail)
  all_goals
    refine bodyPost_ret (v := .tuple #[.iface (jty (.at s)) (jag (.at s)), .bool (text t == s)]) ?_ rfl ?_
    · simp [results, Tryz.results241, go_sem, jty, jag, st_eq]
    · exact ⟨by go_grown, _, _, rfl, HR.out⟩

/-- Terms that are no lam do not go with a joint of lam. -/
theorem jadd_lam_no (t : Term) (j : Jt) (h : kindOf t ≠ 2) : jadd t (.lam j) = none := by
  cases t with
  | lam t => simp [kindOf] at h
  | nm s => simp [jadd]
  | ix n => simp [jadd]
  | app t l => simp [jadd]
theorem jadd_app_no (t : Term) (j k : Jt) (h : kindOf t ≠ 3) : jadd t (.app j k) = none := by
  cases t with
  | app t l => simp [kindOf] at h
  | nm s => simp [jadd]
  | ix n => simp [jadd]
  | lam t => simp [jadd]

set_option maxHeartbeats 800000 in
set_option maxRecDepth 100000 in
theorem coh_lam_no (t : Term) (j : Jt) (hk : kindOf t ≠ 2) : CohSaid t (.lam j) := by
  intro F m v w hj ho hr
  obtain ⟨b, i, p, l, rfl, h6, -⟩ := RepPF.head _ _ hr
  obtain ⟨c0, -, -, -, -, -, -, -⟩ := h6
  have hlt : b < w.heap.size := World.block_lt_of_cell? w _ c0
  have HN := Lib.hid (jadd_lam_no t j hk)
  generalize kindOf t = kd at *
  have hk2 : ((kd : Int) != 2) = true := by simpa using (by omega : (kd : Int) ≠ 2)
  clear hr hk
  show Calls Tryz.prog 230 #[.agg #[jval j], _] w _
  rw [jval_eq j]
  have HX := Blk.new w 260 #[.iface (jty j) (jag j)]
  go_enter Tryz.func230, Tryz.ntmps230
  go_wp2_with fail
  refine bodyPost_ret (v := .tuple #[.iface (jty (.lam j)) (jag (.lam j)), .bool false]) ?_ rfl ?_
  · simp [results, Tryz.results230, go_sem, jty, jag, jval_eq j]
  · exact ⟨by go_grown, _, _, rfl, by simp, fun _ => HN.out⟩

set_option maxHeartbeats 800000 in
set_option maxRecDepth 100000 in
theorem coh_app_no (t : Term) (j k : Jt) (hk : kindOf t ≠ 3) : CohSaid t (.app j k) := by
  intro F m v w hj ho hr
  obtain ⟨b, i, p, l, rfl, h6, -⟩ := RepPF.head _ _ hr
  obtain ⟨c0, -, -, -, -, -, -, -⟩ := h6
  have hlt : b < w.heap.size := World.block_lt_of_cell? w _ c0
  have HN := Lib.hid (jadd_app_no t j k hk)
  generalize kindOf t = kd at *
  have hk2 : ((kd : Int) != 3) = true := by simpa using (by omega : (kd : Int) ≠ 3)
  clear hr hk
  show Calls Tryz.prog 231 #[.agg #[jval j, jval k], _] w _
  rw [jval_eq j, jval_eq k]
  go_enter Tryz.func231, Tryz.ntmps231
  go_wp2_with fail
  refine bodyPost_ret (v := .tuple #[.iface (jty (.app j k)) (jag (.app j k)), .bool false]) ?_ rfl ?_
  · simp [results, Tryz.results231, go_sem, jty, jag, jval_eq j, jval_eq k]
  · exact ⟨by go_grown, _, _, rfl, by simp, fun _ => HN.out⟩

set_option maxHeartbeats 3200000 in
set_option maxRecDepth 100000 in
theorem coh_lam_yes (t : Term) (j : Jt) (ih : CohSaid t j) : CohSaid (.lam t) (.lam j) := by
  intro F m v w hj ho hr
  rw [RepPF] at hr
  obtain ⟨b, p, rfl, h6, hp, -⟩ := hr
  obtain ⟨c0, -, -, -, c5, -, -, -⟩ := h6
  have hlt : b < w.heap.size := World.block_lt_of_cell? w _ c0
  have HP := Lib.hid hp
  have HO : Hid (ok (m + 1) t = true) := by show _ = _; rw [ok] at ho; exact ho
  have HJ : Hid (jshort j) := hj
  have ih2 : ∀ (F : Nat → Prop) (m : Nat) (v : Value) (w : World), jshort j → ok m t = true → RepPF F w t v → Calls Tryz.prog (cohF j) #[jag j, v] w (CohPost w (jadd t j)) := ih
  have hm := meth_coh j
  have HRES : Hid (∀ j1 o, CohR (jadd t j) j1 o → CohR (jadd (.lam t) (.lam j)) (.lam j1) o) := fun j1 o h => by
    rw [jadd]
    exact ⟨fun ho => by rw [h.1 ho]; rfl, fun ho => by rw [h.2 ho]; rfl⟩
  clear hp ih hj ho
  show Calls Tryz.prog 230 #[.agg #[jval j], _] w _
  rw [jval_eq j]
  have HPA : Hid (∀ W, Below w.heap.size w W → RepPF F W t p) := fun W hW => RepPF.move (fun k _ hk => hW.block k hk) (fun k hk _ => hk) _ _ HP.out
  have d0 := cell_alloc c5
  have hc := call_coh j
  have IH := Lib.hid ih2
  clear ih2
  go_enter Tryz.func230, Tryz.ntmps230
  go_wp2_with fail
  go_region_with ((with_reducible refine (IH.out F (m + 1) p _ HJ.out HO.out (HPA.out _ (by go_grown))).mono ?_); rintro e w2 ⟨hb2, j2, o2, rfl, hr2⟩; have HB2 : Hid (Below w.heap.size w w2) := Below.trans (by go_grown) (hb2.mono (by simp)); have HR2 := Lib.hid hr2; clear hb2 hr2)
  all_goals (try go_wp2_with fail)
  all_goals
    refine bodyPost_ret (v := .tuple #[.iface (jty (.lam j2)) (jag (.lam j2)), .bool o2]) ?_ rfl ?_
    · simp [results, Tryz.results230, go_sem, jty, jag, jval_eq j2]
    · exact ⟨HB2.out, _, _, rfl, HRES.out _ _ HR2.out⟩

end Go.Proofs.YtopmkddmllmecaaGreatDoor
