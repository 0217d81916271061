/- Layer interp: a function as it runs. -/
import Derived.Test.YtmljihggooaboaaIj
import Derived.Handy
import Derived.BigQuiet
import Derived.BigRegion
namespace Go.Proofs.Ytmljihggooaboaa
open Go.RowKit
set_option maxRecDepth 100000
set_option linter.unusedVariables false
set_option linter.unusedSimpArgs false

/-- A function as it runs. -/
structure StI (N gr gw n : Nat) (p0 p1 kv mv : Value) (gv nv : Nat) (W V : List Int) (lf : Int) (w : World) : Prop where
  run : RunI gr gw n p0 p1 kv mv W lf w
  var : VarI gv nv V w
  n1 : gr ≠ gv
  n2 : gw ≠ gv
  l1 : N ≤ gr
  l2 : N ≤ gw
  l3 : N ≤ gv
/-- Data, variables, and what is left. -/
structure SS where
  W : List Int
  V : List Int
  lf : Nat
/-- How it went: 0 on, 1 a value is returned, 2 a trap, 3 no fuel. -/
structure RR where
  k : Nat
  x : Int
  s : SS
def RR.end (r : RR) : Ending := if r.k = 0 then .returned (.tuple #[]) else if r.k = 1 then .panicked (reI r.x) else if r.k = 2 then .panicked trI else .panicked spI
def StP (N gr gw n : Nat) (p0 p1 kv mv : Value) (gv nv : Nat) (r : RR) (w : World) (e : Ending) (w' : World) : Prop :=
  e = r.end ∧ StI N gr gw n p0 p1 kv mv gv nv r.s.W r.s.V r.s.lf w' ∧ Ch (fun k => k = gr ∨ k = gw ∨ k = gv) w w'
variable {N gr gw n : Nat} {p0 p1 kv mv : Value} {gv nv : Nat} {W V : List Int} {lf : Int}
theorem StI.bl {w w' : World} (h : StI N gr gw n p0 p1 kv mv gv nv W V lf w) (hb : Below w.heap.size w w') : StI N gr gw n p0 p1 kv mv gv nv W V lf w' := ⟨h.run.bl hb, h.var.bl hb, h.n1, h.n2, h.l1, h.l2, h.l3⟩
theorem StI.dw {w : World} (h : StI N gr gw n p0 p1 kv mv gv nv W V lf w) : StI N gr gw n p0 p1 kv mv gv nv W V lf w.drew := ⟨⟨h.run.ar.drew, h.run.aw.drew, h.run.ne, h.run.len, h.run.n10, h.run.wU⟩, ⟨h.var.av.drew, h.var.len, h.var.n64, h.var.vU⟩, h.n1, h.n2, h.l1, h.l2, h.l3⟩
theorem StI.low {w w' : World} (h : StI N gr gw n p0 p1 kv mv gv nv W V lf w) (hN : N ≤ w.heap.size) (hc : Ch (fun k => k = gr ∨ k = gw ∨ k = gv) w w') : Below N w w' :=
  hc.bl fun i hi => ⟨by omega, by have := h.l1; have := h.l2; have := h.l3; rintro (e | e | e) <;> omega⟩
/-- May it be, but for what is left? -/
def okS (ps : List Int) (vs : Int) (d : Nat) (t : StT d) : Prop := ∃ n m, stN ps vs d t n = some m
theorem okS_s {ps : List Int} {vs : Int} {d : Nat} {t : StT (d + 1)} (h : okS ps vs (d + 1) t) : mayS ps vs t.nd = true ∧ (∀ a ∈ t.nd.a, okX vs 8 a) ∧ (∀ a ∈ t.nd.th, okS ps vs d a) ∧ (∀ a ∈ t.nd.el, okS ps vs d a) := by
  obtain ⟨n, m, h⟩ := h
  unfold stN at h
  split at h
  · cases h
  · next hh =>
    cases h1 : fld (exN vs 8) (StN.a (α := StT d) t) (n - 1) with
    | none => rw [h1] at h; cases h
    | some k1 =>
      rw [h1] at h
      replace h : (fld (stN ps vs d) (StN.th (α := StT d) t) k1).bind (fld (stN ps vs d) (StN.el (α := StT d) t)) = some m := h
      cases h2 : fld (stN ps vs d) (StN.th (α := StT d) t) k1 with
      | none => rw [h2] at h; cases h
      | some k2 =>
        rw [h2] at h
        refine ⟨?_, fun a ha => fld_all _ _ _ h1 a ha, fun a ha => fld_all _ _ _ h2 a ha, fun a ha => fld_all _ _ _ h a ha⟩
        cases h3 : mayS ps vs t.nd with
        | true => rfl
        | false => exact absurd (Or.inr h3) hh
theorem fewS {α : Type} {ps : List Int} {vs : Int} {s : StN α} (hp : ∀ p ∈ ps, p ≤ 64) (h : mayS ps vs s = true) : s.a.length ≤ 64 := by
  unfold mayS at h
  by_cases h6 : s.k = 6
  · rw [if_neg (by omega), if_neg (by omega), if_neg (by omega), if_neg (by omega), if_neg (by omega), if_pos h6] at h
    have h1 := (of_decide_eq_true h).2.1
    unfold tkB at h1
    have h2 := (of_decide_eq_true h1)
    have h3 : ps.getD s.f.toNat 0 ≤ 64 := by
      rw [List.getD_eq_getElem?_getD, List.getElem?_eq_getElem (by omega)]
      exact hp _ (List.getElem_mem _)
    omega
  · repeat (split at h; (have := of_decide_eq_true h; omega))
    first | cases h | (split at h; (have := of_decide_eq_true h; omega); cases h)
end Go.Proofs.Ytmljihggooaboaa
