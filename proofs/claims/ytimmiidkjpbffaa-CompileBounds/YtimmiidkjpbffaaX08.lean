/- K6, Ac, Ii0, Ii, Ik0, K7, K8. -/
import Derived.Test.YtimmiidkjpbffaaX07
import Derived.Handy
import Derived.BigQuiet
import Derived.BigRegion
import Derived.Great.BuildSlice
import Derived.Test.YtimmiidkjpbffaaX01
import Derived.Test.YtimmiidkjpbffaaX02
import Derived.ChangeKeysEq
import Derived.ChangeOld
import Derived.Deep.DeepCutAuto
import Derived.Deep.DrawnRows
import Derived.Deep.MidRow
import Derived.Deep.OwnRows
import Derived.Deep.QuietTactic
import Derived.Deep.RegionHeld3
import Derived.Deep.RegionLaw
import Derived.Deep.RegionWith
import Derived.Deep.WholeRow
import Derived.DeepKeys3
import Derived.Great.FillDense
import Derived.Laws.AppendOwnNone
import Derived.Laws.BitsLemmas
import Derived.Laws.BytesArg
import Derived.Laws.CopyOwn
import Derived.Laws.CopyRow
import Derived.Laws.DeepBits32
import Derived.Laws.MakeOwn
import Derived.Laws.OwnMore
import Derived.Laws.ResultCell
import Derived.Laws.Tables
import Derived.Lib.AppendZeros
import Derived.Lib.SlBytesConst
import Derived.LoopIn
import Derived.LoopNIn
import Derived.Maps.AppendAt
import Derived.OpenShut
import Derived.OwnWalkIn
import Derived.ProofKit
import Derived.RangeFuncBound
import Derived.RangeFuncCalls
import Derived.RangeFuncLeaves
import Derived.RangeFuncNested
import Derived.RangeFuncRecord
import Derived.Recover
import Derived.Shelf.Abstract
import Derived.Shelf.RegionOpen
import Derived.ShutString
import Derived.SizedLaws
import Derived.TacticsInMore
import Derived.WalkKit
import Derived.WalkLawsBesides
import Derived.WalkSpells
import Derived.Test.YtimmiidkjpbffaaX04
import Derived.Test.YtimmiidkjpbffaaX03
import Derived.LoopTactic
import Derived.Laws.AppendOwn
import Derived.OwnWalk
/- Layer compile: variables, data words, probes, numbers. -/
namespace Go.Proofs.Ytimmiidkjpbffaa
open Go.RowKit
set_option maxRecDepth 100000
set_option linter.unusedVariables false
set_option linter.unusedSimpArgs false

variable {P : Nat → Prop} {q : KQ} {s : KS} {N : Nat}
/-- The function whose code is being put is there. -/
structure KG (q : KQ) : Prop where
  f : ∃ j : Nat, q.f = j ∧ j < q.E.fr.length
  r : ∀ (j : Nat) (x : Int), q.E.fr[j]? = some x → 0 ≤ x ∧ x ≤ 100000
  d : 0 ≤ q.E.da ∧ q.E.da ≤ 1024
theorem KG.home (h : KG q) {f v : Int} {j : Nat} (hf : f = j) (hj : j < q.E.fr.length) (hv : 0 ≤ v ∧ v ≤ 64) : 0 ≤ kHome q.E f v ∧ kHome q.E f v ≤ 1000000 := by
  have hx := List.getElem?_eq_getElem hj
  have := h.r j _ hx
  unfold kHome
  rw [hf, List.getD_eq_getElem?_getD, show ((j : Int)).toNat = j by omega, hx]
  simp only [Option.getD_some]
  omega
theorem variable_any {o r v : Int} (w : World) (hK : KK N P q s w) (hG : KG q) (hb : s.code.length + 1 ≤ 1000000) (hv : 0 ≤ v ∧ v ≤ 64) :
    Calls Try.prog 81 #[.pointer (some ⟨q.g, 0, none⟩), .int .u8 o, .int .u8 r, .int .i64 v] w (KZ N P q (kVar q.E q.f o r v s) w) := by
  obtain ⟨j, hf, hj⟩ := hG.f
  have hx := List.getElem?_eq_getElem hj
  have hh := home_any (f := q.f) (v := v) w hK hf hx (hG.r _ _ hx) hv
  have hs := slot_any (o := o) (r := r) (n := kHome q.E q.f v) w hK hb (hG.home hf hj hv)
  obtain ⟨cv, gv, hB⟩ := hK.b
  have c8 := hB.c8
  clear hB hx hj
  replace hf := hid hf
  replace hG := hid hG
  replace hK := hid hK
  replace hs := hid hs
  replace hh := hid hh
  go_enter Try.func81, Try.ntmps81
  go_wp2_with (first
    | (go_at_call 66; go_must (refine hh.out.mono ?_; rintro e w1 ⟨rfl, rfl⟩))
    | (go_at_call 65; go_must (refine hs.out.mono ?_; rintro e w1 ⟨rfl, hK1, hc1⟩)))
  go_end0
  exact ⟨rfl, hK1, hc1⟩
theorem data_any {o r a m : Int} (w : World) (hK : KK N P q s w) (hb : s.code.length + 1 ≤ 1000000) (hm : 0 ≤ m ∧ m ≤ 1024) :
    Calls Try.prog 83 #[.pointer (some ⟨q.g, 0, none⟩), .int .u8 o, .int .u8 r, .int .u8 a, .int .u64 m] w (KZ N P q (kData o r a m s) w) := by
  have hw : IntKind.u32.wrap m = m := by simp only [IntKind.wrap]; first | omega | (simp [IntKind.bits, IntKind.signed]; omega)
  have hp := putTo_k (l := 33) (o := o) (a := r) (b := a) (c := 0) (i := m) w hK hb
  replace hK := hid hK
  replace hp := hid hp
  go_enter Try.func83, Try.ntmps83
  go_wp2_with (go_at_call 62; go_must (refine hp.out.mono ?_; rintro e w1 ⟨rfl, hK1, hc1⟩))
  go_end0
  exact ⟨rfl, hK1, hc1⟩
/-- One instruction that a method puts by itself. -/
theorem put_one {o a b c i : Int} (w : World) (hK : KK N P q s w) (hb : s.code.length + 1 ≤ 1000000) :
    Calls Try.prog 29 #[.slice (some ⟨w.heap.size, 0, none⟩) 1 1, .pointer (some ⟨q.gc, 0, none⟩)] (w.alloc (.cells #[.int .u8 o, .int .u8 a, .int .u8 b, .int .u8 c, .int .u32 i] 108)) fun e w' => e = .returned (.int .i64 ((s.code.length : Int) + 1)) ∧ KK N P q (s.put [⟨o, a, b, c, i⟩]) w' ∧ Ch P w w' := by
  refine (put_k (l := [⟨o, a, b, c, i⟩]) _ (hK.al0 _) (CR.one (Arr.new w 108 #[.int .u8 o, .int .u8 a, .int .u8 b, .int .u8 c, .int .u32 i])) hb).mono ?_
  rintro e w' ⟨h1, h2, h3⟩
  exact ⟨h1, h2, ((Ch.refl P w).al _).trans h3⟩
theorem probe_any {r : Int} (w : World) (hK : KK N P q s w) (hb : s.code.length + 1 ≤ 1000000) :
    Calls Try.prog 84 #[.pointer (some ⟨q.g, 0, none⟩), .int .u8 r] w (KZ N P q (kProbe r s) w) := by
  have hp := put_one (o := 17) (a := 13) (b := r) (c := 0) (i := 0) w hK hb
  obtain ⟨cv, gv, hB⟩ := hK.b
  have c2 := hB.c2
  unfold pF at c2
  clear hB
  replace hK := hid hK
  replace hp := hid hp
  go_enter Try.func84, Try.ntmps84
  go_wp2_with (go_at_call 29; go_must (refine hp.out.mono ?_; rintro e w1 ⟨rfl, hK1, hc1⟩))
  go_end0
  exact ⟨rfl, hK1, hc1⟩
theorem raise_any {r : Int} (w : World) (hK : KK N P q s w) (hb : s.code.length + 1 ≤ 1000000) :
    Calls Try.prog 88 #[.pointer (some ⟨q.g, 0, none⟩), .int .u8 r] w (KZ N P q (kRaise r s) w) := by
  have hp := put_one (o := 5) (a := r) (b := r) (c := 14) (i := 0) w hK hb
  obtain ⟨cv, gv, hB⟩ := hK.b
  have c2 := hB.c2
  unfold pF at c2
  clear hB
  replace hK := hid hK
  replace hp := hid hp
  go_enter Try.func88, Try.ntmps88
  go_wp2_with (go_at_call 29; go_must (refine hp.out.mono ?_; rintro e w1 ⟨rfl, hK1, hc1⟩))
  go_end0
  exact ⟨rfl, hK1, hc1⟩
theorem ahead_any {t : Int} (w : World) (ht : 0 ≤ t ∧ t ≤ 256) : Calls Try.prog 89 #[.int .i64 t] w fun e w' => e = .returned (.int .u32 (kAhead t)) ∧ w' = w := by
  have hw : IntKind.u32.wrap t = t := by simp only [IntKind.wrap]; first | omega | (simp [IntKind.bits, IntKind.signed]; omega)
  have hw2 : IntKind.u32.wrap (256 + t) = 256 + t := by simp only [IntKind.wrap]; first | omega | (simp [IntKind.bits, IntKind.signed]; omega)
  unfold kAhead
  by_cases h : t = 256
  · have hd : (t == 256) = true := by simpa using h
    rw [if_pos h]
    clear h hw hw2
    go_enter Try.func89, Try.ntmps89
    go_wp2_with fail
    go_ret
    exact ⟨rfl, rfl⟩
  · have hd : (t == 256) = false := by simpa using h
    rw [if_neg h]
    clear h
    go_enter Try.func89, Try.ntmps89
    go_wp2_with fail
    go_ret
    exact ⟨rfl, rfl⟩
end Go.Proofs.Ytimmiidkjpbffaa
/- Layer compile: what the layers below give. -/
namespace Go.Proofs.Ytimmiidkjpbffaa
open Go.RowKit
set_option maxRecDepth 100000
set_option linter.unusedVariables false
set_option linter.unusedSimpArgs false

/-- A word is set. -/
theorem MW.set {w : World} {g i : Nat} {L : List Int} (h : MW w g L) (hi : i < L.length) (x : Int) : MW (w.setCell ⟨g, i, none⟩ (.int .u64 x)) g (L.set i x) := by
  obtain ⟨C, hA, hC⟩ := h
  refine ⟨_, hA.set i _, fun t ht => ?_⟩
  rw [List.length_set] at ht
  have hs : i < C.size := (Array.getElem?_eq_some_iff.1 (hC i hi)).1
  by_cases e : i = t
  · subst e
    rw [Array.getElem?_setIfInBounds_self_of_lt hs]
    simp [List.getD_eq_getElem?_getD, hi]
  · rw [Array.getElem?_setIfInBounds_ne e, hC t ht]
    simp [List.getD_eq_getElem?_getD, List.getElem?_set_ne e]
end Go.Proofs.Ytimmiidkjpbffaa
/- Layer compile: what the layers below give. -/
namespace Go.Proofs.Ytimmiidkjpbffaa
open Go.RowKit
set_option maxRecDepth 100000
set_option linter.unusedVariables false
set_option linter.unusedSimpArgs false

def uA (L : List Int) : Array Value := (L.map fun x => Value.int .u64 x).toArray
theorem uA_get {L : List Int} {i : Nat} (h : i < L.length) : (uA L)[i]? = some (.int .u64 (L.getD i 0)) := by
  simp [uA, List.getElem?_map, List.getD, List.getElem?_eq_getElem h]
theorem uA_size (L : List Int) : (uA L).size = L.length := by simp [uA]
theorem uA_set (L : List Int) (i : Nat) (x : Int) : (uA L).setIfInBounds i (.int .u64 x) = uA (L.set i x) := by
  simp [uA, List.map_set]
def trI : List PanicEntry := [{ v := .iface 93 (.agg #[]), recovered := false }]
def spI : List PanicEntry := [{ v := .iface 94 (.agg #[]), recovered := false }]
def reI (x : Int) : List PanicEntry := [{ v := .iface 91 (.agg #[.int .u64 x]), recovered := false }]
/-- A run: gr: the runner, gw: its data words; n of them. -/
structure RunI (gr gw n : Nat) (p0 p1 kv mv : Value) (W : List Int) (lf : Int) (w : World) : Prop where
  ar : Arr w gr 65 #[p0, p1, .slice (some ⟨gw, 0, none⟩) n n, .int .i64 lf, kv, mv]
  aw : Arr w gw 25 (uA W)
  ne : gr ≠ gw
  len : Hid (W.length = n)
  n10 : n ≤ 1024
  wU : ∀ x ∈ W, U64 x
theorem RunI.bl {gr gw n : Nat} {p0 p1 kv mv : Value} {W : List Int} {lf : Int} {w w' : World} (h : RunI gr gw n p0 p1 kv mv W lf w) (hb : Below w.heap.size w w') : RunI gr gw n p0 p1 kv mv W lf w' :=
  ⟨h.ar.bl hb, h.aw.bl hb, h.ne, h.len, h.n10, h.wU⟩
section
variable {gr gw n : Nat} {p0 p1 kv mv : Value} {W : List Int} {lf : Int}
/-- What an expression comes to. -/
def evX (W V : List Int) : (d : Nat) → ExT d → Option Int
  | 0, _ => none
  | d + 1, t =>
    if t.nd.k = 1 then some t.nd.n
    else if t.nd.k = 2 then some (V.getD t.nd.v.toNat 0)
    else if t.nd.k = 4 then (t.nd.l[0]?).bind fun a => (evX W V d a).bind fun x => if x < W.length then some (W.getD x.toNat 0) else none
    else (t.nd.l[0]?).bind fun a => (t.nd.l[1]?).bind fun b => (evX W V d a).bind fun x => (evX W V d b).bind fun y => rk t.nd.o x y
/-- May it be, whatever is left? -/
def okX (vs : Int) (d : Nat) (t : ExT d) : Prop := ∃ n m, exN vs d t n = some m
theorem fld_all {α : Type} {f : α → Nat → Option Nat} : ∀ (l : List α) (n m : Nat), fld f l n = some m → ∀ a ∈ l, ∃ n m, f a n = some m
  | [], _, _, _, _, h => by cases h
  | b :: r, n, m, h, a, ha => by
    unfold fld at h
    cases h1 : f b n with
    | none => rw [h1] at h; cases h
    | some k =>
      rw [h1] at h
      rcases List.mem_cons.1 ha with rfl | ha
      · exact ⟨n, k, h1⟩
      · exact fld_all r k m h a ha
theorem okX_s {vs : Int} {d : Nat} {t : ExT (d + 1)} (h : okX vs (d + 1) t) : mayE vs t.nd = true ∧ ∀ a ∈ t.nd.l, okX vs d a := by
  obtain ⟨n, m, h⟩ := h
  unfold exN at h
  split at h
  · cases h
  · next hh =>
    refine ⟨?_, fun a ha => fld_all _ _ _ h a ha⟩
    cases h2 : mayE vs t.nd with
    | true => rfl
    | false => exact absurd (Or.inr h2) hh
end
end Go.Proofs.Ytimmiidkjpbffaa
/- Layer compile: what the layers below give. -/
namespace Go.Proofs.Ytimmiidkjpbffaa
open Go.RowKit
set_option maxRecDepth 100000
set_option linter.unusedVariables false
set_option linter.unusedSimpArgs false

/-- n variables. -/
structure VarI (gv nv : Nat) (V : List Int) (w : World) : Prop where
  av : Arr w gv 25 (uA V)
  len : Hid (V.length = nv)
  n64 : nv ≤ 64
  vU : ∀ x ∈ V, U64 x
theorem VarI.bl {gv nv : Nat} {V : List Int} {w w' : World} (h : VarI gv nv V w) (hb : Below w.heap.size w w') : VarI gv nv V w' := ⟨h.av.bl hb, h.len, h.n64, h.vU⟩
def VlP (r : Option Int) (w : World) (e : Ending) (w' : World) : Prop := (∀ z, r = some z → e = .returned (.int .u64 z)) ∧ (r = none → e = .panicked trI) ∧ Below w.heap.size w w'
theorem VlP.ok {z : Int} {w : World} {e : Ending} {w' : World} (h : e = .returned (.int .u64 z)) (hb : Below w.heap.size w w') : VlP (some z) w e w' := ⟨fun z' hz => (by cases hz; exact h), fun h => (by cases h), hb⟩
end Go.Proofs.Ytimmiidkjpbffaa
/- Layer compile: what the layers below give. -/
namespace Go.Proofs.Ytimmiidkjpbffaa
open Go.RowKit
set_option maxRecDepth 100000
set_option linter.unusedVariables false
set_option linter.unusedSimpArgs false

/-- A function as it runs. -/
structure StI (N gr gw n : Nat) (p0 p1 kv mv : Value) (gv nv : Nat) (W V : List Int) (lf : Int) (w : World) : Prop where
  run : RunI gr gw n p0 p1 kv mv W lf w
  var : VarI gv nv V w
  n1 : gr ≠ gv
  n2 : gw ≠ gv
  l1 : N ≤ gr
  l2 : N ≤ gw
  l3 : N ≤ gv
/-- Data, variables, and what is left. -/
structure SS where
  W : List Int
  V : List Int
  lf : Nat
/-- How it went: 0 on, 1 a value is returned, 2 a trap, 3 no fuel. -/
structure RR where
  k : Nat
  x : Int
  s : SS
def RR.end (r : RR) : Ending := if r.k = 0 then .returned (.tuple #[]) else if r.k = 1 then .panicked (reI r.x) else if r.k = 2 then .panicked trI else .panicked spI
def StP (N gr gw n : Nat) (p0 p1 kv mv : Value) (gv nv : Nat) (r : RR) (w : World) (e : Ending) (w' : World) : Prop :=
  e = r.end ∧ StI N gr gw n p0 p1 kv mv gv nv r.s.W r.s.V r.s.lf w' ∧ Ch (fun k => k = gr ∨ k = gw ∨ k = gv) w w'
section
variable {N gr gw n : Nat} {p0 p1 kv mv : Value} {gv nv : Nat} {W V : List Int} {lf : Int}
theorem StI.bl {w w' : World} (h : StI N gr gw n p0 p1 kv mv gv nv W V lf w) (hb : Below w.heap.size w w') : StI N gr gw n p0 p1 kv mv gv nv W V lf w' := ⟨h.run.bl hb, h.var.bl hb, h.n1, h.n2, h.l1, h.l2, h.l3⟩
theorem StI.dw {w : World} (h : StI N gr gw n p0 p1 kv mv gv nv W V lf w) : StI N gr gw n p0 p1 kv mv gv nv W V lf w.drew := ⟨⟨h.run.ar.drew, h.run.aw.drew, h.run.ne, h.run.len, h.run.n10, h.run.wU⟩, ⟨h.var.av.drew, h.var.len, h.var.n64, h.var.vU⟩, h.n1, h.n2, h.l1, h.l2, h.l3⟩
theorem StI.low {w w' : World} (h : StI N gr gw n p0 p1 kv mv gv nv W V lf w) (hN : N ≤ w.heap.size) (hc : Ch (fun k => k = gr ∨ k = gw ∨ k = gv) w w') : Below N w w' :=
  hc.bl fun i hi => ⟨by omega, by have := h.l1; have := h.l2; have := h.l3; rintro (e | e | e) <;> omega⟩
/-- May it be, but for what is left? -/
def okS (ps : List Int) (vs : Int) (d : Nat) (t : StT d) : Prop := ∃ n m, stN ps vs d t n = some m
theorem okS_s {ps : List Int} {vs : Int} {d : Nat} {t : StT (d + 1)} (h : okS ps vs (d + 1) t) : mayS ps vs t.nd = true ∧ (∀ a ∈ t.nd.a, okX vs 8 a) ∧ (∀ a ∈ t.nd.th, okS ps vs d a) ∧ (∀ a ∈ t.nd.el, okS ps vs d a) := by
  obtain ⟨n, m, h⟩ := h
  unfold stN at h
  split at h
  · cases h
  · next hh =>
    cases h1 : fld (exN vs 8) (StN.a (α := StT d) t) (n - 1) with
    | none => rw [h1] at h; cases h
    | some k1 =>
      rw [h1] at h
      replace h : (fld (stN ps vs d) (StN.th (α := StT d) t) k1).bind (fld (stN ps vs d) (StN.el (α := StT d) t)) = some m := h
      cases h2 : fld (stN ps vs d) (StN.th (α := StT d) t) k1 with
      | none => rw [h2] at h; cases h
      | some k2 =>
        rw [h2] at h
        refine ⟨?_, fun a ha => fld_all _ _ _ h1 a ha, fun a ha => fld_all _ _ _ h2 a ha, fun a ha => fld_all _ _ _ h a ha⟩
        cases h3 : mayS ps vs t.nd with
        | true => rfl
        | false => exact absurd (Or.inr h3) hh
theorem fewS {α : Type} {ps : List Int} {vs : Int} {s : StN α} (hp : ∀ p ∈ ps, p ≤ 64) (h : mayS ps vs s = true) : s.a.length ≤ 64 := by
  unfold mayS at h
  by_cases h6 : s.k = 6
  · rw [if_neg (by omega), if_neg (by omega), if_neg (by omega), if_neg (by omega), if_neg (by omega), if_pos h6] at h
    have h1 := (of_decide_eq_true h).2.1
    unfold tkB at h1
    have h2 := (of_decide_eq_true h1)
    have h3 : ps.getD s.f.toNat 0 ≤ 64 := by
      rw [List.getD_eq_getElem?_getD, List.getElem?_eq_getElem (by omega)]
      exact hp _ (List.getElem_mem _)
    omega
  · repeat (split at h; (have := of_decide_eq_true h; omega))
    first | cases h | (split at h; (have := of_decide_eq_true h; omega); cases h)
end
end Go.Proofs.Ytimmiidkjpbffaa
/- Layer compile: what code comes to in length (pure). -/
namespace Go.Proofs.Ytimmiidkjpbffaa
open Go.RowKit
set_option maxRecDepth 100000
set_option linter.unusedVariables false
set_option linter.unusedSimpArgs false

/-- Code grows. -/
def KLe (s s' : KS) : Prop := s.code.length ≤ s'.code.length ∧ s.nx ≤ s'.nx
theorem KLe.refl (s : KS) : KLe s s := ⟨Nat.le_refl _, by omega⟩
theorem KLe.trans {a b c : KS} (h : KLe a b) (h' : KLe b c) : KLe a c := ⟨Nat.le_trans h.1 h'.1, by have := h.2; have := h'.2; omega⟩
theorem kput_le (s : KS) (l : List KI) : KLe s (s.put l) := ⟨by simp [KS.put], by simp [KS.put]⟩
theorem kto_le (s : KS) (l : Int) (c : KI) : KLe s (s.to l c) := ⟨by simp [KS.to], by simp [KS.to]⟩
theorem khere_le (s : KS) (l : Int) : KLe s (s.here l) := ⟨by simp [KS.here], by simp [KS.here]⟩
theorem kfresh_le (s : KS) : KLe s s.fresh := ⟨by simp [KS.fresh], by simp [KS.fresh]; omega⟩
theorem kX_le (E : KE) (f : Int) : ∀ (d : Nat) (t : ExT d) (r : Int) (s : KS), KLe s (kX E f d t r s) ∧ (kX E f d t r s).nx = s.nx
  | 0, _, _, s => ⟨KLe.refl s, rfl⟩
  | d + 1, t, r, s => by
    unfold kX kXone
    repeat' split
    · exact ⟨kput_le _ _, rfl⟩
    · exact ⟨kput_le _ _, rfl⟩
    · exact ⟨kto_le _ _ _, rfl⟩
    · exact ⟨KLe.refl s, rfl⟩
    · exact ⟨kto_le _ _ _, rfl⟩
    · next a _ _ =>
      have h := kX_le E f d a r s
      exact ⟨h.1.trans ((kput_le _ _).trans (kto_le _ _ _)), h.2⟩
    · next a b _ _ =>
      have h := kX_le E f d a r s
      have h2 := kX_le E f d b (r + 1) (kX E f d a r s)
      exact ⟨(h.1.trans h2.1).trans (kput_le _ _), h2.2.trans h.2⟩
end Go.Proofs.Ytimmiidkjpbffaa
/- Layer compile: numbers, variables that are read, data addresses. -/
namespace Go.Proofs.Ytimmiidkjpbffaa
open Go.RowKit
set_option maxRecDepth 100000
set_option linter.unusedVariables false
set_option linter.unusedSimpArgs false

variable {P : Nat → Prop} {q : KQ} {s : KS} {N : Nat}
/-- More instructions than one that a method puts by itself. -/
theorem put_two {o a b c i o' a' b' c' i' : Int} (w : World) (hK : KK N P q s w) (hb : s.code.length + 2 ≤ 1000000) :
    Calls Try.prog 29 #[.slice (some ⟨w.heap.size, 0, none⟩) 2 2, .pointer (some ⟨q.gc, 0, none⟩)] (w.alloc (.cells #[.int .u8 o, .int .u8 a, .int .u8 b, .int .u8 c, .int .u32 i, .int .u8 o', .int .u8 a', .int .u8 b', .int .u8 c', .int .u32 i'] 108)) fun e w' => e = .returned (.int .i64 ((s.code.length : Int) + 2)) ∧ KK N P q (s.put [⟨o, a, b, c, i⟩, ⟨o', a', b', c', i'⟩]) w' ∧ Ch P w w' := by
  refine (put_k (l := [⟨o, a, b, c, i⟩, ⟨o', a', b', c', i'⟩]) _ (hK.al0 _) ⟨rfl, fun h => (by cases h), fun x hx j u hj => ?_⟩ hb).mono ?_
  · cases hx
    have A := Arr.new w 108 #[.int .u8 o, .int .u8 a, .int .u8 b, .int .u8 c, .int .u32 i, .int .u8 o', .int .u8 a', .int .u8 b', .int .u8 c', .int .u32 i']
    rw [Addr.add_mid, Nat.zero_add, A.cell j]
    simpa [flatC, ccell] using hj
  · rintro e w' ⟨h1, h2, h3⟩
    exact ⟨h1, h2, ((Ch.refl P w).al _).trans h3⟩
set_option maxHeartbeats 1000000 in
theorem constant_any {n v o r : Int} {sl : Value} {hs : ∃ sp m c, sl = .slice sp m c} (w : World) (hK : KK N P q s w) (hn : U64 n) (hb : (if n / 4294967296 ≠ 0 then s.put [⟨2, r, 0, 0, n / 4294967296⟩, ⟨3, r, 0, 0, n % 4294967296⟩] else s.put [⟨2, r, 0, 0, n % 4294967296⟩]).code.length ≤ 1000000) :
    Calls Try.prog 58 #[.pointer (some ⟨q.g, 0, none⟩), .agg #[.int .u8 1, .int .u64 n, .int .i64 v, .int .u8 o, sl], .int .u8 r] w (KZ N P q (if n / 4294967296 ≠ 0 then s.put [⟨2, r, 0, 0, n / 4294967296⟩, ⟨3, r, 0, 0, n % 4294967296⟩] else s.put [⟨2, r, 0, 0, n % 4294967296⟩]) w) := by
  obtain ⟨sp, m, c, rfl⟩ := hs
  obtain ⟨n0, n1⟩ := hn
  have hK1 := hK.al0 (.cells #[.int .u8 1, .int .u64 n, .int .i64 v, .int .u8 o, .slice sp m c] 92)
  obtain ⟨cv, gv, hB⟩ := hK1.b
  have c2 := hB.c2
  unfold pF at c2
  have hp1 := fun h => put_one (o := 2) (a := r) (b := 0) (c := 0) (i := n % 4294967296) _ hK1 h
  have hp2 := put_two (o := 2) (a := r) (b := 0) (c := 0) (i := n / 4294967296) (o' := 3) (a' := r) (b' := 0) (c' := 0) (i' := n % 4294967296) _ hK1
  have hc0 := (Ch.refl P w).al (.cells #[.int .u8 1, .int .u64 n, .int .i64 v, .int .u8 o, .slice sp m c] 92)
  simp only [World.size_alloc] at hp1 hp2
  have hw : IntKind.u32.wrap n = n % 4294967296 := by simp only [IntKind.wrap]; first | omega | (simp [IntKind.bits, IntKind.signed])
  have hw2 : IntKind.u32.wrap (n / 4294967296) = n / 4294967296 := by simp only [IntKind.wrap]; first | omega | (simp [IntKind.bits, IntKind.signed]; omega)
  clear hB
  by_cases h : n / 4294967296 = 0
  · have hd : (n / 4294967296 != 0) = false := by simpa using h
    rw [if_neg (by omega)] at hb ⊢
    replace hp1 := hp1 (by simpa [KS.put] using hb)
    clear h hp2
    replace hK := hid hK
    replace hK1 := hid hK1
    replace hp1 := hid hp1
    replace hc0 := hid hc0
    go_enter Try.func58, Try.ntmps58
    go_wp2_with (go_at_call 29; go_must (refine hp1.out.mono ?_; rintro e w1 ⟨rfl, hK2, hc1⟩))
    go_end0
    exact ⟨rfl, hK2, hc0.out.trans hc1⟩
  · have hd : (n / 4294967296 != 0) = true := by simpa using h
    rw [if_pos h] at hb ⊢
    replace hp2 := hp2 (by simpa [KS.put] using hb)
    clear h hp1
    replace hK := hid hK
    replace hK1 := hid hK1
    replace hp2 := hid hp2
    replace hc0 := hid hc0
    go_enter Try.func58, Try.ntmps58
    go_wp2_with (go_at_call 29; go_must (refine hp2.out.mono ?_; rintro e w1 ⟨rfl, hK2, hc1⟩))
    go_end0
    exact ⟨rfl, hK2, hc0.out.trans hc1⟩
theorem read_any {n v o r : Int} {sp : Option Addr} {m c : Nat} (w : World) (hK : KK N P q s w) (hG : KG q) (hv : 0 ≤ v ∧ v ≤ 64) (hb : s.code.length + 1 ≤ 1000000) :
    Calls Try.prog 59 #[.pointer (some ⟨q.g, 0, none⟩), .agg #[.int .u8 2, .int .u64 n, .int .i64 v, .int .u8 o, .slice sp m c], .int .u8 r] w (KZ N P q (kVar q.E q.f 17 r v s) w) := by
  have hc0 := (Ch.refl P w).al (.cells #[.int .u8 2, .int .u64 n, .int .i64 v, .int .u8 o, .slice sp m c] 92)
  have hp := variable_any (o := 17) (r := r) (v := v) _ (hK.al0 (.cells #[.int .u8 2, .int .u64 n, .int .i64 v, .int .u8 o, .slice sp m c] 92)) hG hb hv
  replace hK := hid hK
  replace hp := hid hp
  replace hc0 := hid hc0
  go_enter Try.func59, Try.ntmps59
  go_wp2_with (go_at_call 81; go_must (refine hp.out.mono ?_; rintro e w1 ⟨rfl, hK2, hc1⟩))
  go_end0
  exact ⟨rfl, hK2, hc0.out.trans hc1⟩
set_option maxHeartbeats 1000000 in
theorem inData_any {k n v o : Int} {sp : Option Addr} {m c : Nat} (w : World) (hK : KK N P q s w) (hG : KG q) :
    Calls Try.prog 82 #[.pointer (some ⟨q.g, 0, none⟩), .agg #[.int .u8 k, .int .u64 n, .int .i64 v, .int .u8 o, .slice sp m c]] w fun e w' => e = .returned (.bool ((k == 1) && decide (n < q.E.da))) ∧ KK N P q s w' ∧ Ch P w w' := by
  have hc0 := ((Ch.refl P w).al (.cells #[.int .u8 k, .int .u64 n, .int .i64 v, .int .u8 o, .slice sp m c] 92))
  have hK1 := hK.al0 (.cells #[.int .u8 k, .int .u64 n, .int .i64 v, .int .u8 o, .slice sp m c] 92)
  obtain ⟨cv, gv, hB⟩ := hK1.b
  have c1 := hB.c1
  have hd := hG.d
  have hw : IntKind.u64.wrap q.E.da = q.E.da := by simp only [IntKind.wrap]; first | omega | (simp [IntKind.bits, IntKind.signed]; omega)
  clear hB
  replace hK := hid hK
  replace hK1 := hid hK1
  replace hc0 := hid hc0
  by_cases h : (k == 1) = true
  · rw [h, Bool.true_and]
    go_enter Try.func82, Try.ntmps82
    go_upto_region 1 with fail
    go_quiet (fail)
    go_wp2_with fail
    go_ret
    exact ⟨rfl, hK1.out.dwN _, hc0.out.dwN _⟩
  · replace h : (k == 1) = false := by simpa using h
    rw [h, Bool.false_and]
    go_enter Try.func82, Try.ntmps82
    go_upto_region 1 with fail
    go_quiet (fail)
    go_wp2_with fail
    go_ret
    exact ⟨rfl, hK1.out.dwN _, hc0.out.dwN _⟩
end Go.Proofs.Ytimmiidkjpbffaa
