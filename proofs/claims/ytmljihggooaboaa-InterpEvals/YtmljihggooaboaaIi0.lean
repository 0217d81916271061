/- Layer interp: a run in memory. -/
import Derived.Test.YtmljihggooaboaaIg
import Derived.Test.YtmljihggooaboaaIh
import Derived.Test.YtmljihggooaboaaZZTo
import Derived.Handy
import Derived.BigQuiet
import Derived.BigRegion
namespace Go.Proofs.Ytmljihggooaboaa
open Go.RowKit
set_option maxRecDepth 100000
set_option linter.unusedVariables false
set_option linter.unusedSimpArgs false

def uA (L : List Int) : Array Value := (L.map fun x => Value.int .u64 x).toArray
theorem uA_get {L : List Int} {i : Nat} (h : i < L.length) : (uA L)[i]? = some (.int .u64 (L.getD i 0)) := by
  simp [uA, List.getElem?_map, List.getD, List.getElem?_eq_getElem h]
theorem uA_size (L : List Int) : (uA L).size = L.length := by simp [uA]
theorem uA_set (L : List Int) (i : Nat) (x : Int) : (uA L).setIfInBounds i (.int .u64 x) = uA (L.set i x) := by
  simp [uA, List.map_set]
def trI : List PanicEntry := [{ v := .iface 93 (.agg #[]), recovered := false }]
def spI : List PanicEntry := [{ v := .iface 94 (.agg #[]), recovered := false }]
def reI (x : Int) : List PanicEntry := [{ v := .iface 91 (.agg #[.int .u64 x]), recovered := false }]
/-- A run: gr: the runner, gw: its data words; n of them. -/
structure RunI (gr gw n : Nat) (p0 p1 kv mv : Value) (W : List Int) (lf : Int) (w : World) : Prop where
  ar : Arr w gr 65 #[p0, p1, .slice (some ⟨gw, 0, none⟩) n n, .int .i64 lf, kv, mv]
  aw : Arr w gw 30 (uA W)
  ne : gr ≠ gw
  len : Hid (W.length = n)
  n10 : n ≤ 1024
  wU : ∀ x ∈ W, U64 x
theorem RunI.bl {gr gw n : Nat} {p0 p1 kv mv : Value} {W : List Int} {lf : Int} {w w' : World} (h : RunI gr gw n p0 p1 kv mv W lf w) (hb : Below w.heap.size w w') : RunI gr gw n p0 p1 kv mv W lf w' :=
  ⟨h.ar.bl hb, h.aw.bl hb, h.ne, h.len, h.n10, h.wU⟩
variable {gr gw n : Nat} {p0 p1 kv mv : Value} {W : List Int} {lf : Int}
theorem word_ok {x : Int} {j : Nat} (w : World) (hI : RunI gr gw n p0 p1 kv mv W lf w) (hx : x = j) (hj : j < n) :
    Calls Try.prog 44 #[.pointer (some ⟨gr, 0, none⟩), .int .u64 x] w fun e w' => e = .returned (.pointer (some ⟨gw, j, none⟩)) ∧ w' = w := by
  subst hx
  have c := hI.ar.cell 2
  have h10 := hI.n10
  have hu : IntKind.u64.wrap (n : Int) = n := wrap64_of (by omega) (by omega)
  have h1 : ¬ (n : Int) ≤ j := by omega
  have h2 : (j : Int) < n := by omega
  clear hI
  go_enter Try.func44, Try.ntmps44
  go_wp2_with fail
  go_ret
  exact ⟨rfl, rfl⟩
theorem word_no {x : Int} (w : World) (hI : RunI gr gw n p0 p1 kv mv W lf w) (hx : (n : Int) ≤ x) :
    Calls Try.prog 44 #[.pointer (some ⟨gr, 0, none⟩), .int .u64 x] w fun e w' => e = .panicked trI ∧ w' = w := by
  have c := hI.ar.cell 2
  have h10 := hI.n10
  have hu : IntKind.u64.wrap (n : Int) = n := wrap64_of (by omega) (by omega)
  clear hI
  go_enter Try.func44, Try.ntmps44
  go_wp2_with fail
  exact ⟨rfl, rfl, rfl⟩
theorem burn_ok {k : Nat} (w : World) (hI : RunI gr gw n p0 p1 kv mv W ((k + 1 : Nat) : Int) w) (hk : k ≤ 4194304) :
    Calls Try.prog 42 #[.pointer (some ⟨gr, 0, none⟩)] w fun e w' => e = .returned (.tuple #[]) ∧ w' = w.setCell ⟨gr, 3, none⟩ (.int .i64 (k : Int)) ∧ RunI gr gw n p0 p1 kv mv W (k : Int) w' := by
  have c := hI.ar.cell 3
  have f := hI.ar.frozen 3
  have h1 : (((k + 1 : Nat) : Int) == 0) = false := by simp; omega
  have h2 : IntKind.i64.wrap (((k + 1 : Nat) : Int) - 1) = (k : Int) := by rw [IntKind.wrap_i64]; omega
  have hR : RunI gr gw n p0 p1 kv mv W (k : Int) (w.setCell ⟨gr, 3, none⟩ (.int .i64 (k : Int))) := ⟨hI.ar.set 3 _, hI.aw.setOther _ (fun e => hI.ne e.symm), hI.ne, hI.len, hI.n10, hI.wU⟩
  clear hI
  generalize ((k + 1 : Nat) : Int) = q at *
  go_enter Try.func42, Try.ntmps42
  go_wp2_with fail
  go_end0
  exact ⟨rfl, rfl, hR⟩
theorem burn_no (w : World) (hI : RunI gr gw n p0 p1 kv mv W 0 w) :
    Calls Try.prog 42 #[.pointer (some ⟨gr, 0, none⟩)] w fun e w' => e = .panicked spI ∧ w' = w := by
  have c := hI.ar.cell 3
  clear hI
  go_enter Try.func42, Try.ntmps42
  go_wp2_with fail
  exact ⟨rfl, rfl, rfl⟩
/-- What an expression comes to. -/
def evX (W V : List Int) : (d : Nat) → ExT d → Option Int
  | 0, _ => none
  | d + 1, t =>
    if t.nd.k = 1 then some t.nd.n
    else if t.nd.k = 2 then some (V.getD t.nd.v.toNat 0)
    else if t.nd.k = 4 then (t.nd.l[0]?).bind fun a => (evX W V d a).bind fun x => if x < W.length then some (W.getD x.toNat 0) else none
    else (t.nd.l[0]?).bind fun a => (t.nd.l[1]?).bind fun b => (evX W V d a).bind fun x => (evX W V d b).bind fun y => rk t.nd.o x y
/-- May it be, whatever is left? -/
def okX (vs : Int) (d : Nat) (t : ExT d) : Prop := ∃ n m, exN vs d t n = some m
theorem fld_all {α : Type} {f : α → Nat → Option Nat} : ∀ (l : List α) (n m : Nat), fld f l n = some m → ∀ a ∈ l, ∃ n m, f a n = some m
  | [], _, _, _, _, h => by cases h
  | b :: r, n, m, h, a, ha => by
    unfold fld at h
    cases h1 : f b n with
    | none => rw [h1] at h; cases h
    | some k =>
      rw [h1] at h
      rcases List.mem_cons.1 ha with rfl | ha
      · exact ⟨n, k, h1⟩
      · exact fld_all r k m h a ha
theorem okX_s {vs : Int} {d : Nat} {t : ExT (d + 1)} (h : okX vs (d + 1) t) : mayE vs t.nd = true ∧ ∀ a ∈ t.nd.l, okX vs d a := by
  obtain ⟨n, m, h⟩ := h
  unfold exN at h
  split at h
  · cases h
  · next hh =>
    refine ⟨?_, fun a ha => fld_all _ _ _ h a ha⟩
    cases h2 : mayE vs t.nd with
    | true => rfl
    | false => exact absurd (Or.inr h2) hh
end Go.Proofs.Ytmljihggooaboaa
