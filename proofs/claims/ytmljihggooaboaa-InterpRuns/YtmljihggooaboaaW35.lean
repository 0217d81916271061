/- Pa, Pb. -/
import Derived.Test.YtmljihggooaboaaW23
import Derived.Test.YtmljihggooaboaaW34
import Derived.Test.YtmljihggooaboaaW09
import Derived.Test.YtmljihggooaboaaW06
import Derived.Test.YtmljihggooaboaaW05
import Derived.Handy
import Derived.BigQuiet
import Derived.BigRegion
/- Layer interp: the document's run in memory. -/
namespace Go.Proofs.Ytmljihggooaboaa
open Go.RowKit
set_option maxRecDepth 100000
set_option linter.unusedVariables false
set_option linter.unusedSimpArgs false

/-- The document's run: gr itself, gw its data words; n of them. -/
structure DunI (gr gw n : Nat) (p0 p1 kv : Value) (W : List Int) (fu st en va : Int) (w : World) : Prop where
  ar : Arr w gr 70 #[p0, p1, kv, .slice (some ⟨gw, 0, none⟩) n n, .int .i64 fu, .int .i64 st, .int .i64 en, .int .u64 va]
  aw : Arr w gw 30 (uA W)
  ne : gr ≠ gw
  len : Hid (W.length = n)
  n10 : n ≤ 1024
  wU : ∀ x ∈ W, U64 x
variable {gr gw n : Nat} {p0 p1 kv : Value} {W : List Int} {fu st en va : Int}
theorem DunI.bl {w w' : World} (h : DunI gr gw n p0 p1 kv W fu st en va w) (hb : Below w.heap.size w w') : DunI gr gw n p0 p1 kv W fu st en va w' := ⟨h.ar.bl hb, h.aw.bl hb, h.ne, h.len, h.n10, h.wU⟩
theorem DunI.dw {w : World} (h : DunI gr gw n p0 p1 kv W fu st en va w) : DunI gr gw n p0 p1 kv W fu st en va w.drew := h.bl (Below.refl _ w).drew
theorem DunI.en' {w : World} (h : DunI gr gw n p0 p1 kv W fu st en va w) (x : Int) : DunI gr gw n p0 p1 kv W fu st x va (w.setCell ⟨gr, 6, none⟩ (.int .i64 x)) := ⟨h.ar.set 6 _, h.aw.setOther _ (fun e => h.ne e.symm), h.ne, h.len, h.n10, h.wU⟩
theorem DunI.st' {w : World} (h : DunI gr gw n p0 p1 kv W fu st en va w) (x : Int) : DunI gr gw n p0 p1 kv W fu x en va (w.setCell ⟨gr, 5, none⟩ (.int .i64 x)) := ⟨h.ar.set 5 _, h.aw.setOther _ (fun e => h.ne e.symm), h.ne, h.len, h.n10, h.wU⟩
theorem DunI.va' {w : World} (h : DunI gr gw n p0 p1 kv W fu st en va w) (x : Int) : DunI gr gw n p0 p1 kv W fu st en x (w.setCell ⟨gr, 7, none⟩ (.int .u64 x)) := ⟨h.ar.set 7 _, h.aw.setOther _ (fun e => h.ne e.symm), h.ne, h.len, h.n10, h.wU⟩
set_option maxHeartbeats 1000000 in
theorem take_no (w : World) (h : DunI gr gw n p0 p1 kv W fu fu en va w) :
    Calls Try.prog 36 #[.pointer (some ⟨gr, 0, none⟩)] w fun e w' => e = .returned (.bool false) ∧ DunI gr gw n p0 p1 kv W fu fu 3 va w' ∧ Ch (fun k => k = gr) w w' := by
  have c4 : w.cell? ⟨gr, 4, none⟩ = some (.int .i64 fu) := h.ar.cell 4
  have c5 : w.cell? ⟨gr, 5, none⟩ = some (.int .i64 fu) := h.ar.cell 5
  have d6 := h.dw.ar.cell 6
  have f6 := h.dw.ar.frozen 6
  have hfin := hid (And.intro (h.dw.en' 3) (((Ch.refl (fun k => k = gr) w).dw).st (g := gr) (j := 6) (.int .i64 3) (fun _ => rfl)))
  clear h
  go_enter Try.func36, Try.ntmps36
  go_upto_region 1 with fail
  refine rgn (fun u => u.cell? ⟨gr, 4, none⟩ = some (.int .i64 fu) ∧ u.cell? ⟨gr, 5, none⟩ = some (.int .i64 fu)) ⟨c4, c5⟩ (fun hS => ?_)
  refine tk2 0 rfl ?_
  refine tk2 1 rfl ?_
  refine tk2 2 rfl ?_
  refine tk2 3 rfl ?_
  refine tk2 4 rfl ?_
  refine tk2 5 rfl ?_
  refine tk2 6 rfl ?_
  refine tk2 7 rfl ?_
  refine tk2 8 rfl ?_
  refine dn ?_
  go_wp2_with fail
  go_ret
  exact ⟨rfl, hfin.out⟩
set_option maxHeartbeats 1000000 in
theorem take_ok (w : World) (h : DunI gr gw n p0 p1 kv W fu st en va w) (hne : st ≠ fu) (hs : 0 ≤ st ∧ st ≤ 4194304) :
    Calls Try.prog 36 #[.pointer (some ⟨gr, 0, none⟩)] w fun e w' => e = .returned (.bool true) ∧ DunI gr gw n p0 p1 kv W fu (st + 1) en va w' ∧ Ch (fun k => k = gr) w w' := by
  have c4 : w.cell? ⟨gr, 4, none⟩ = some (.int .i64 fu) := h.ar.cell 4
  have c5 : w.cell? ⟨gr, 5, none⟩ = some (.int .i64 st) := h.ar.cell 5
  have e1 : (st == fu) = false := by simpa using hne
  have e2 : IntKind.i64.wrap (st + 1) = st + 1 := by rw [IntKind.wrap_i64]; omega
  have d5 := h.dw.ar.cell 5
  have f5 := h.dw.ar.frozen 5
  have hfin := hid (And.intro (h.dw.st' (st + 1)) (((Ch.refl (fun k => k = gr) w).dw).st (g := gr) (j := 5) (.int .i64 (st + 1)) (fun _ => rfl)))
  clear h hne
  go_enter Try.func36, Try.ntmps36
  go_upto_region 1 with fail
  refine rgn (fun u => u.cell? ⟨gr, 4, none⟩ = some (.int .i64 fu) ∧ u.cell? ⟨gr, 5, none⟩ = some (.int .i64 st)) ⟨c4, c5⟩ (fun hS => ?_)
  refine tk2 0 rfl ?_
  refine tk2 1 rfl ?_
  refine tk2 2 rfl ?_
  refine tk2 3 rfl ?_
  refine tk2 4 rfl ?_
  refine tk2 5 rfl ?_
  refine tk2 6 rfl ?_
  refine tk2 7 rfl ?_
  refine tk2 8 rfl ?_
  refine dn ?_
  go_wp2_with fail
  go_ret
  exact ⟨rfl, hfin.out⟩
theorem dhas_any {x y : Int} {c : Nat} (w : World) (h : DunI gr gw n p0 p1 kv W fu st en va w) (hx : U64 x) (hy : y = (c : Int)) (hc : c ≤ 1024) :
    Calls Try.prog 50 #[.pointer (some ⟨gr, 0, none⟩), .int .u64 x, .int .i64 y] w fun e w' => e = .returned (.bool (decide (c = 0 ∨ x + c ≤ n))) ∧ w' = w := by
  subst hy
  have c3 := h.ar.cell 3
  have hn := h.n10
  have h1 := hx.1
  have h2 := hx.2
  have a0 : IntKind.u64.wrap (n : Int) = n := wrap64_of (by omega) (by omega)
  have a1 : IntKind.u64.wrap (c : Int) = c := wrap64_of (by omega) (by omega)
  clear h
  by_cases hc0 : c = 0
  · have e0 : ((c : Int) == 0) = true := by simpa using hc0
    rw [decide_eq_true (.inl hc0)]
    replace hc0 := hid hc0
    go_enter Try.func50, Try.ntmps50
    go_wp2_with fail
    go_ret
    exact ⟨rfl, rfl⟩
  have e0 : ((c : Int) == 0) = false := by simpa using hc0
  by_cases hl : x < n
  · have e1 : decide (x < (n : Int)) = true := by simpa using hl
    have a2 : IntKind.u64.wrap ((n : Int) - x) = (n : Int) - x := wrap64_of (by omega) (by omega)
    have e2 : decide ((c : Int) ≤ (n : Int) - x) = decide (c = 0 ∨ x + c ≤ n) := decide_eq_decide.2 ⟨fun h => .inr (by omega), fun h => by omega⟩
    generalize decide (c = 0 ∨ x + c ≤ n) = b at *
    replace hc0 := hid hc0
    go_enter Try.func50, Try.ntmps50
    go_wp2_with fail
    go_ret
    exact ⟨rfl, rfl⟩
  · have e1 : decide (x < (n : Int)) = false := by simpa using hl
    rw [decide_eq_false (show ¬ (c = 0 ∨ x + c ≤ n) by omega)]
    replace hc0 := hid hc0
    go_enter Try.func50, Try.ntmps50
    go_wp2_with fail
    go_ret
    exact ⟨rfl, rfl⟩
theorem trap_any (w : World) (h : DunI gr gw n p0 p1 kv W fu st 0 va w) :
    Calls Try.prog 51 #[.pointer (some ⟨gr, 0, none⟩)] w fun e w' => e = .returned (.int .u64 0) ∧ DunI gr gw n p0 p1 kv W fu st 2 va w' ∧ Ch (fun k => k = gr) w w' := by
  have c6 : w.cell? ⟨gr, 6, none⟩ = some (.int .i64 0) := h.ar.cell 6
  have f6 := h.ar.frozen 6
  have hfin := hid (And.intro (h.en' 2) ((Ch.refl (fun k => k = gr) w).st (g := gr) (j := 6) (.int .i64 2) (fun _ => rfl)))
  clear h
  go_enter Try.func51, Try.ntmps51
  go_wp2_with fail
  go_ret
  exact ⟨rfl, hfin.out⟩
theorem expr_off {k nn v o : Int} {sv : Value} {va2 : Value} (w : World) (h : DunI gr gw n p0 p1 kv W fu st en va w) (hen : en ≠ 0) :
    Calls Try.prog 49 #[.pointer (some ⟨gr, 0, none⟩), .agg #[.int .u8 k, .int .u64 nn, .int .i64 v, .int .u8 o, sv], va2] w fun e w' => e = .returned (.int .u64 0) ∧ Below w.heap.size w w' := by
  have b0 := ab w (.cells #[.int .u8 k, .int .u64 nn, .int .i64 v, .int .u8 o, sv] 76)
  have c6 := (h.bl b0).ar.cell 6
  have e0 : (en != 0) = true := by simpa using hen
  clear h hen
  go_enter Try.func49, Try.ntmps49
  go_wp2_with fail
  go_ret
  exact ⟨rfl, b0⟩
end Go.Proofs.Ytmljihggooaboaa
/- Layer interp: the document's expressions. -/
namespace Go.Proofs.Ytmljihggooaboaa
open Go.RowKit
set_option maxRecDepth 100000
set_option linter.unusedVariables false
set_option linter.unusedSimpArgs false

def enO (r : Option Int) : Int := if r.isSome = true then 0 else 2
/-- What the document's expr answers. -/
def DxP (r : Option Int) (gr gw n : Nat) (p0 p1 kv : Value) (W : List Int) (fu st va : Int) (w : World) (e : Ending) (w' : World) : Prop :=
  ∃ z, e = .returned (.int .u64 z) ∧ U64 z ∧ Hid (∀ x, r = some x → z = x) ∧ DunI gr gw n p0 p1 kv W fu st (enO r) va w' ∧ Ch (fun k => k = gr) w w'
def DvAt (N gr gw n : Nat) (p0 p1 kv : Value) (W : List Int) (fu st va : Int) (gv nv : Nat) (V : List Int) (d : Nat) : Prop :=
  ∀ (w : World) (cs : List Value) (t : ExT d), N ≤ w.heap.size → DunI gr gw n p0 p1 kv W fu st 0 va w → VarI gv nv V w → ExM N w d cs t → okX nv d t →
    Calls Try.prog 49 #[.pointer (some ⟨gr, 0, none⟩), .agg cs.toArray, .slice (some ⟨gv, 0, none⟩) nv nv] w (DxP (evX W V d t) gr gw n p0 p1 kv W fu st va w)
theorem evV_u {op x y : Int} (hx : U64 x) (hy : U64 y) : U64 (evV op x y) := by
  unfold evV
  split
  · next h =>
    cases hr : rk op x y with
    | none => simp [U64]
    | some z => exact rkU h hx hy hr
  · simp [U64]
theorem ExM.five {N : Nat} {w : World} : ∀ {d : Nat} {cs : List Value} {t : ExT d}, ExM N w d cs t → ∃ k nn v o sp m cap, cs = [.int .u8 k, .int .u64 nn, .int .i64 v, .int .u8 o, .slice sp m cap]
  | 0, _, _, h => by obtain ⟨k, nn, v, o, sp, m, cap, rfl⟩ := h; exact ⟨k, nn, v, o, sp, m, cap, rfl⟩
  | d + 1, _, _, h => by obtain ⟨sp, m, cap, rfl, -⟩ := h; exact ⟨_, _, _, _, sp, m, cap, rfl⟩
theorem evX_4 {W V : List Int} {d : Nat} {t : ExT (d + 1)} {a : ExT d} (h1 : ¬ t.nd.k = 1) (h2 : ¬ t.nd.k = 2) (h4 : t.nd.k = 4) (ha : t.nd.l = [a]) : evX W V (d + 1) t = (evX W V d a).bind fun x => if x < W.length then some (W.getD x.toNat 0) else none := by
  rw [evX, if_neg h1, if_neg h2, if_pos h4, ha]
  rfl
theorem evX_3 {W V : List Int} {d : Nat} {t : ExT (d + 1)} {a b : ExT d} (h1 : ¬ t.nd.k = 1) (h2 : ¬ t.nd.k = 2) (h4 : ¬ t.nd.k = 4) (ha : t.nd.l = [a, b]) : evX W V (d + 1) t = (evX W V d a).bind fun x => (evX W V d b).bind fun y => rk t.nd.o x y := by
  rw [evX, if_neg h1, if_neg h2, if_neg h4, ha]
  rfl
variable {N gr gw n : Nat} {p0 p1 kv : Value} {W : List Int} {fu st va : Int} {gv nv : Nat} {V : List Int}
set_option maxHeartbeats 4000000 in
theorem dval_s {d : Nat} (hg : gr ≠ gv) (hl : N ≤ gr) (hE : DvAt N gr gw n p0 p1 kv W fu st va gv nv V d) : DvAt N gr gw n p0 p1 kv W fu st va gv nv V (d + 1) := by
  intro w cs t hN hI hV hM hok
  obtain ⟨hmy, hkids⟩ := okX_s hok
  obtain ⟨sp, m, cap, rfl, hko, hS⟩ := hM
  have b0 := ab w (.cells (exC t.nd.k t.nd.n t.nd.v t.nd.o (.slice sp m cap)).toArray 76)
  have hI1 := hI.bl b0
  have hV1 := hV.bl b0
  have A := Arr.new w 76 (exC t.nd.k t.nd.n t.nd.v t.nd.o (.slice sp m cap)).toArray
  have hS1 := hS.imp (b0.mono hN) (ExM.below (b0.mono hN) d)
  have c6 : (w.alloc (.cells (exC t.nd.k t.nd.n t.nd.v t.nd.o (.slice sp m cap)).toArray 76)).cell? ⟨gr, 6, none⟩ = some (.int .i64 0) := hI1.ar.cell 6
  have hwg : w.heap.size ≠ gr := by have := hI.ar.lt; omega
  have hc0 : Ch (fun k => k = gr) w (w.alloc (.cells (exC t.nd.k t.nd.n t.nd.v t.nd.o (.slice sp m cap)).toArray 76)) := Ch.ob b0
  have hNU : N ≤ (w.alloc (.cells (exC t.nd.k t.nd.n t.nd.v t.nd.o (.slice sp m cap)).toArray 76)).heap.size := by simp; omega
  by_cases h1 : t.nd.k = 1
  · have hr : evX W V (d + 1) t = some t.nd.n := by unfold evX; rw [if_pos h1]
    rw [hr]
    have e1 : (t.nd.k == 1) = true := by simpa using h1
    have k0 : (w.alloc (.cells (exC t.nd.k t.nd.n t.nd.v t.nd.o (.slice sp m cap)).toArray 76)).cell? ⟨w.heap.size, 0, none⟩ = some (.int .u8 t.nd.k) := A.cell 0
    have k1 : (w.alloc (.cells (exC t.nd.k t.nd.n t.nd.v t.nd.o (.slice sp m cap)).toArray 76)).cell? ⟨w.heap.size, 1, none⟩ = some (.int .u64 t.nd.n) := A.cell 1
    have hfin := hid (show DxP (some t.nd.n) gr gw n p0 p1 kv W fu st va w (.returned (.int .u64 t.nd.n)) _ from ⟨_, rfl, hko.n, hid (fun x hx => by cases hx; rfl), hI1, hc0⟩)
    clear hI hV hS hmy hkids hok hko h1 hr A hI1 hV1 hS1 hE
    unfold exC at *
    go_enter Try.func49, Try.ntmps49
    go_wp2_with fail
    go_ret
    exact hfin.out
  by_cases h2 : t.nd.k = 2
  · have hr : evX W V (d + 1) t = some (V.getD t.nd.v.toNat 0) := by unfold evX; rw [if_neg h1, if_pos h2]
    have hv : 0 ≤ t.nd.v ∧ t.nd.v < nv := by simp [mayE, h2] at hmy; omega
    obtain ⟨j, hj⟩ : ∃ j : Nat, t.nd.v = j := ⟨t.nd.v.toNat, by omega⟩
    have hjn : j < nv := by omega
    have hjn' : (j : Int) < nv := by omega
    have hn64 := hV.n64
    rw [hr]
    have e1 : (t.nd.k == 1) = false := by simpa using h1
    have e2 : (t.nd.k == 2) = true := by simpa using h2
    rw [show t.nd.v.toNat = j by omega]
    clear hr hv hmy
    generalize t.nd.v = vv at *
    subst hj
    have k0 : (w.alloc (.cells (exC t.nd.k t.nd.n (j : Int) t.nd.o (.slice sp m cap)).toArray 76)).cell? ⟨w.heap.size, 0, none⟩ = some (.int .u8 t.nd.k) := A.cell 0
    have k2 : (w.alloc (.cells (exC t.nd.k t.nd.n (j : Int) t.nd.o (.slice sp m cap)).toArray 76)).cell? ⟨w.heap.size, 2, none⟩ = some (.int .i64 (j : Int)) := A.cell 2
    have vc := hV1.av.cell j
    rw [uA_get (by rw [hV1.len.out]; exact hjn)] at vc
    have hfin := hid (show DxP (some (V.getD j 0)) gr gw n p0 p1 kv W fu st va w (.returned (.int .u64 (V.getD j 0))) _ from ⟨_, rfl, getU hV.vU _, hid (fun x hx => by cases hx; rfl), hI1, hc0⟩)
    clear hI hV hS hkids hok hko h1 h2 A hI1 hV1 hS1 hE
    unfold exC at *
    generalize V.getD j 0 = vj at *
    go_enter Try.func49, Try.ntmps49
    go_wp2_with fail
    go_ret
    exact hfin.out
  by_cases h4 : t.nd.k = 4
  · have hl1 : m = 1 := by have : (t.nd.l.length : Int) = 1 := by { simp [mayE, h4] at hmy; omega }; rw [hS.len.out]; omega
    obtain ⟨a, ha⟩ := len1 (show t.nd.l.length = 1 by rw [← hS.len.out]; exact hl1)
    have hr : evX W V (d + 1) t = (evX W V d a).bind fun x => if x < W.length then some (W.getD x.toNat 0) else none := evX_4 h1 h2 h4 ha
    have hoa := hkids a (by rw [ha]; simp)
    obtain ⟨g, off, rfl, hgN, hR⟩ := hS1.at0 (by omega)
    obtain ⟨ca, hra, hMa⟩ := hR 0 a (by rw [ha]; rfl)
    obtain ⟨ka, na, va2, oa, spa, ma, capa, rfl⟩ := hMa.five
    have hca := hid (hE _ _ a hNU hI1 hV1 hMa hoa)
    have q0 := hra 0 _ rfl
    have q1 := hra 1 _ rfl
    have q2 := hra 2 _ rfl
    have q3 := hra 3 _ rfl
    have q4 := hra 4 _ rfl
    simp only [Nat.add_zero, Nat.zero_mul] at q0 q1 q2 q3 q4
    rw [hr]
    have e1 : (t.nd.k == 1) = false := by simpa using h1
    have e2 : (t.nd.k == 2) = false := by simpa using h2
    have e3 : (t.nd.k == 3) = false := by simp; omega
    subst hl1
    have k0 : (w.alloc (.cells (exC t.nd.k t.nd.n t.nd.v t.nd.o (.slice (some ⟨g, off, none⟩) 1 cap)).toArray 76)).cell? ⟨w.heap.size, 0, none⟩ = some (.int .u8 t.nd.k) := A.cell 0
    have k4 : (w.alloc (.cells (exC t.nd.k t.nd.n t.nd.v t.nd.o (.slice (some ⟨g, off, none⟩) 1 cap)).toArray 76)).cell? ⟨w.heap.size, 4, none⟩ = some (.slice (some ⟨g, off, none⟩) 1 cap) := A.cell 4
    have hWl := hI.len
    have hn10 := hI.n10
    have hwU := hI.wU
    clear hI hV hS hmy hkids hok hko h1 h2 h4 hr A hI1 hV1 hS1 hE hR hra hMa ha hoa
    unfold exC at *
    cases hea : evX W V d a with
    | none =>
      rw [hea] at hca
      go_enter Try.func49, Try.ntmps49
      go_wp2_with (go_at_call 49; go_must (refine hca.out.mono ?_; rintro e w1 ⟨z, rfl, hz, -, hD1, hc1⟩; replace hD1 : DunI gr gw n p0 p1 kv W fu st 2 va w1 := hD1; have d6 := hD1.ar.cell 6))
      go_ret
      exact ⟨0, rfl, by simp [U64], hid (fun x hx => by cases hx), hD1, hc0.trans hc1⟩
    | some x =>
      rw [hea] at hca
      by_cases hx : x < W.length
      · have hrr : ((some x).bind fun x => if x < W.length then some (W.getD x.toNat 0) else none) = some (W.getD x.toNat 0) := by show (if _ then _ else _) = _; rw [if_pos hx]
        rw [hrr]
        have hxn : x < n := by rw [← hWl.out]; exact hx
        generalize hwj : W.getD x.toNat 0 = wj
        go_enter Try.func49, Try.ntmps49
        go_upto_region 18 with (go_at_call 49; go_must (refine hca.out.mono ?_; rintro e w1 ⟨z, rfl, hz, hzx, hD1, hc1⟩; replace hD1 : DunI gr gw n p0 p1 kv W fu st 0 va w1 := hD1; have d6 := hD1.ar.cell 6))
        obtain rfl := hzx.out x rfl
        have hz0 := hz.1
        obtain ⟨j, rfl⟩ : ∃ j : Nat, z = j := ⟨z.toNat, by omega⟩
        have hjn : j < n := by omega
        have hhs := dhas_any (y := 1) (c := 1) w1 hD1 hz rfl (by omega)
        rw [decide_eq_true (show (1 = 0 ∨ (j : Int) + (1 : Nat) ≤ n) by omega)] at hhs
        have d3 := hD1.ar.cell 3
        have dw := (hD1.aw.cell j).trans (uA_get (by rw [hWl.out]; exact hjn))
        rw [show ((j : Int)).toNat = j by omega] at hwj
        have hgu := getU hwU j
        rw [hwj] at dw hgu
        clear hzx hea hx hrr hwj
        go_wp2_with (go_at_call 50; go_must (refine hhs.mono ?_; rintro e w2 ⟨rfl, h⟩; replace h := h.symm; subst h))
        go_ret
        exact ⟨wj, rfl, hgu, hid (fun x hx => by cases hx; rfl), hD1, hc0.trans hc1⟩
      · have hrr : ((some x).bind fun x => if x < W.length then some (W.getD x.toNat 0) else none) = none := by show (if _ then _ else _) = _; rw [if_neg hx]
        rw [hrr]
        have hxn : ¬ x < n := by rw [← hWl.out]; exact hx
        go_enter Try.func49, Try.ntmps49
        go_upto_region 18 with (go_at_call 49; go_must (refine hca.out.mono ?_; rintro e w1 ⟨z, rfl, hz, hzx, hD1, hc1⟩; replace hD1 : DunI gr gw n p0 p1 kv W fu st 0 va w1 := hD1; have d6 := hD1.ar.cell 6))
        obtain rfl := hzx.out x rfl
        have hhs := dhas_any (y := 1) (c := 1) w1 hD1 hz rfl (by omega)
        rw [decide_eq_false (show ¬ (1 = 0 ∨ z + (1 : Nat) ≤ n) by omega)] at hhs
        have htr := trap_any w1 hD1
        clear hzx hea hx hrr
        go_wp2_with (first
          | (go_at_call 50; go_must (refine hhs.mono ?_; rintro e w2 ⟨rfl, h⟩; replace h := h.symm; subst h))
          | (go_at_call 51; go_must (refine htr.mono ?_; rintro e w3 ⟨rfl, hD3, hc3⟩)))
        go_ret
        exact ⟨0, rfl, by simp [U64], hid (fun x hx => by cases hx), hD3, (hc0.trans hc1).trans hc3⟩
  have h3 : t.nd.k = 3 ∧ 5 ≤ t.nd.o ∧ t.nd.o ≤ 16 ∧ (t.nd.l.length : Int) = 2 := by
    unfold mayE at hmy
    rw [if_neg h1, if_neg h2] at hmy
    by_cases h3 : t.nd.k = 3
    · rw [if_pos h3] at hmy
      have := of_decide_eq_true hmy
      exact ⟨h3, this.1, this.2.1, this.2.2.1⟩
    · rw [if_neg h3, if_neg h4] at hmy
      cases hmy
  obtain ⟨h3, ho1, ho2, hl2⟩ := h3
  have ho := And.intro ho1 ho2
  have hm2 : m = 2 := by rw [hS.len.out]; omega
  obtain ⟨a, b, ha⟩ := len2 (show t.nd.l.length = 2 by omega)
  have hr : evX W V (d + 1) t = (evX W V d a).bind fun x => (evX W V d b).bind fun y => rk t.nd.o x y := evX_3 h1 h2 h4 ha
  have hoa := hkids a (by rw [ha]; simp)
  have hob := hkids b (by rw [ha]; simp)
  obtain ⟨g, off, rfl, hgN, hR⟩ := hS1.at0 (by omega)
  obtain ⟨ca, hra, hMa⟩ := hR 0 a (by rw [ha]; rfl)
  obtain ⟨cb, hrb, hMb⟩ := hR 1 b (by rw [ha]; rfl)
  obtain ⟨ka, na, va2, oa, spa, ma, capa, rfl⟩ := hMa.five
  obtain ⟨kb, nb, vb2, ob, spb, mb, capb, rfl⟩ := hMb.five
  have hca := hid (hE _ _ a hNU hI1 hV1 hMa hoa)
  have q0 := hra 0 _ rfl
  have q1 := hra 1 _ rfl
  have q2 := hra 2 _ rfl
  have q3 := hra 3 _ rfl
  have q4 := hra 4 _ rfl
  simp only [Nat.add_zero, Nat.zero_mul] at q0 q1 q2 q3 q4
  have r0 := hrb 0 _ rfl
  have r1 := hrb 1 _ rfl
  have r2 := hrb 2 _ rfl
  have r3 := hrb 3 _ rfl
  have r4 := hrb 4 _ rfl
  simp only [Nat.add_zero, Nat.one_mul] at r0 r1 r2 r3 r4
  rw [hr]
  have e1 : (t.nd.k == 1) = false := by simpa using h1
  have e2 : (t.nd.k == 2) = false := by simpa using h2
  have e3 : (t.nd.k == 3) = true := by simpa using h3
  subst hm2
  have k0 := A.cell 0
  have k4 := A.cell 4
  have hcb := hid fun (w1 : World) (hD : DunI gr gw n p0 p1 kv W fu st 0 va w1) (hc : Ch (fun k => k = gr) (w.alloc (.cells (exC t.nd.k t.nd.n t.nd.v t.nd.o (.slice (some ⟨g, off, none⟩) 2 cap)).toArray 76)) w1) => hE w1 _ b (by have := hc.size; omega) hD ⟨hc.arr hV1.av hg.symm, hV1.len, hV1.n64, hV1.vU⟩ (ExM.below (hc.bl (N := N) fun i hi => ⟨by omega, by omega⟩) d _ b hMb) hob
  have hev := hid fun (x y : Int) (u : World) (hx : U64 x) (hy : U64 y) => refEval_any (op := t.nd.o) u hx hy
  unfold EvP at hev
  have hoo := hid ho
  clear hI hV hS hmy hkids hok hko h1 h2 h3 h4 hr hI1 hV1 hS1 hE hR hra hrb hMa hMb ha hoa hob ho ho1 ho2 hl2
  unfold exC at *
  cases hea : evX W V d a with
  | none =>
    rw [hea] at hca
    go_enter Try.func49, Try.ntmps49
    go_upto_region 11 with (first
      | (go_at_call 49; have hq := hca; clear hca; go_must (refine hq.out.mono ?_; rintro e w1 ⟨z1, rfl, hz1, hzx, hD1, hc1⟩; replace hD1 : DunI gr gw n p0 p1 kv W fu st 2 va w1 := hD1; have A1 := hc1.arr A hwg; have k4' := A1.cell 4; have k3' := A1.cell 3; have hlw : Below N _ w1 := hc1.bl (fun i hi => ⟨by omega, by omega⟩); have r0 := (hlw.cell (p := ⟨g, off + 5, none⟩) hgN).trans r0; have r1 := (hlw.cell (p := ⟨g, off + 5 + 1, none⟩) hgN).trans r1; have r2 := (hlw.cell (p := ⟨g, off + 5 + 2, none⟩) hgN).trans r2; have r3 := (hlw.cell (p := ⟨g, off + 5 + 3, none⟩) hgN).trans r3; have r4 := (hlw.cell (p := ⟨g, off + 5 + 4, none⟩) hgN).trans r4; have hoff := expr_off (k := kb) (nn := nb) (v := vb2) (o := ob) (sv := .slice spb mb capb) (va2 := .slice (some ⟨gv, 0, none⟩) nv nv) w1 hD1 (by omega)))
      | (go_at_call 49; go_must (refine hoff.mono ?_; rintro e w2 ⟨rfl, hb2⟩; have k3b := (A1.bl hb2).cell 3; have d6 := (hD1.bl hb2).ar.cell 6)))
    have hev1 := hev.out z1 0 w2 hz1 u0
    have hu1 := evV_u (op := t.nd.o) hz1 u0
    have hfin : Hid (∀ v, U64 v → DxP none gr gw n p0 p1 kv W fu st va w (.returned (.int .u64 v)) w2) := hid fun v hv => ⟨v, rfl, hv, hid (fun x hx => by cases hx), hD1.bl hb2, (hc0.trans hc1).trans (Ch.ob hb2)⟩
    generalize evV t.nd.o z1 0 = ev at *
    generalize evE t.nd.o z1 0 = ee at *
    obtain ⟨be, hbe⟩ : ∃ be, (ee != 0) = be := ⟨_, rfl⟩
    cases be with
    | true =>
      go_wp2_with (go_at_call 12; go_must (refine hev1.mono ?_; rintro e w3 ⟨rfl, h⟩; replace h := h.symm; subst h))
      go_ret
      exact hfin.out ev hu1
    | false =>
      go_wp2_with (go_at_call 12; go_must (refine hev1.mono ?_; rintro e w3 ⟨rfl, h⟩; replace h := h.symm; subst h))
      go_ret
      exact hfin.out ev hu1
  | some x =>
    rw [hea] at hca
    cases heb : evX W V d b with
    | none =>
      rw [heb] at hcb
      go_enter Try.func49, Try.ntmps49
      go_upto_region 11 with (first
        | (go_at_call 49; have hq := hca; clear hca; go_must (refine hq.out.mono ?_; rintro e w1 ⟨z1, rfl, hz1, hzx, hD1, hc1⟩; replace hD1 : DunI gr gw n p0 p1 kv W fu st 0 va w1 := hD1; have A1 := hc1.arr A hwg; have k4' := A1.cell 4; have k3' := A1.cell 3; have hlw : Below N _ w1 := hc1.bl (fun i hi => ⟨by omega, by omega⟩); have r0 := (hlw.cell (p := ⟨g, off + 5, none⟩) hgN).trans r0; have r1 := (hlw.cell (p := ⟨g, off + 5 + 1, none⟩) hgN).trans r1; have r2 := (hlw.cell (p := ⟨g, off + 5 + 2, none⟩) hgN).trans r2; have r3 := (hlw.cell (p := ⟨g, off + 5 + 3, none⟩) hgN).trans r3; have r4 := (hlw.cell (p := ⟨g, off + 5 + 4, none⟩) hgN).trans r4; have hcb1 := hcb.out w1 hD1 hc1))
        | (go_at_call 49; go_must (refine hcb1.mono ?_; rintro e w2 ⟨z2, rfl, hz2, hzy, hD2, hc2⟩; replace hD2 : DunI gr gw n p0 p1 kv W fu st 2 va w2 := hD2; have k3b := (hc2.arr A1 hwg).cell 3; have d6 := hD2.ar.cell 6)))
      have hev1 := hev.out z1 z2 w2 hz1 hz2
      have hu1 := evV_u (op := t.nd.o) hz1 hz2
      have hfin : Hid (∀ v, U64 v → DxP none gr gw n p0 p1 kv W fu st va w (.returned (.int .u64 v)) w2) := hid fun v hv => ⟨v, rfl, hv, hid (fun x hx => by cases hx), hD2, (hc0.trans hc1).trans hc2⟩
      generalize evV t.nd.o z1 z2 = ev at *
      generalize evE t.nd.o z1 z2 = ee at *
      obtain ⟨be, hbe⟩ : ∃ be, (ee != 0) = be := ⟨_, rfl⟩
      cases be with
      | true =>
        go_wp2_with (go_at_call 12; go_must (refine hev1.mono ?_; rintro e w3 ⟨rfl, h⟩; replace h := h.symm; subst h))
        go_ret
        exact hfin.out ev hu1
      | false =>
        go_wp2_with (go_at_call 12; go_must (refine hev1.mono ?_; rintro e w3 ⟨rfl, h⟩; replace h := h.symm; subst h))
        go_ret
        exact hfin.out ev hu1
    | some y =>
      rw [heb] at hcb
      have hrr : ((some x).bind fun x => (some y).bind fun y => rk t.nd.o x y) = rk t.nd.o x y := rfl
      rw [hrr]
      clear hea heb hrr
      cases hk : rk t.nd.o x y with
      | some z =>
        replace hk := hid hk
        go_enter Try.func49, Try.ntmps49
        go_upto_region 11 with (first
          | (go_at_call 49; have hq := hca; clear hca; go_must (refine hq.out.mono ?_; rintro e w1 ⟨z1, rfl, hz1, hzx, hD1, hc1⟩; replace hD1 : DunI gr gw n p0 p1 kv W fu st 0 va w1 := hD1; have A1 := hc1.arr A hwg; have k4' := A1.cell 4; have k3' := A1.cell 3; have hlw : Below N _ w1 := hc1.bl (fun i hi => ⟨by omega, by omega⟩); have r0 := (hlw.cell (p := ⟨g, off + 5, none⟩) hgN).trans r0; have r1 := (hlw.cell (p := ⟨g, off + 5 + 1, none⟩) hgN).trans r1; have r2 := (hlw.cell (p := ⟨g, off + 5 + 2, none⟩) hgN).trans r2; have r3 := (hlw.cell (p := ⟨g, off + 5 + 3, none⟩) hgN).trans r3; have r4 := (hlw.cell (p := ⟨g, off + 5 + 4, none⟩) hgN).trans r4; have hcb1 := hcb.out w1 hD1 hc1))
          | (go_at_call 49; go_must (refine hcb1.mono ?_; rintro e w2 ⟨z2, rfl, hz2, hzy, hD2, hc2⟩; replace hD2 : DunI gr gw n p0 p1 kv W fu st 0 va w2 := hD2; have k3b := (hc2.arr A1 hwg).cell 3; have d6 := hD2.ar.cell 6)))
        obtain rfl := hzx.out x rfl
        obtain rfl := hzy.out y rfl
        have hev1 := hev.out z1 z2 w2 hz1 hz2
        have hin := ev_in (op := t.nd.o) (x := z1) (y := z2) hoo.out
        rw [hin.1, hin.2, hk.out] at hev1
        have hu1 : U64 z := rkU hoo.out hz1 hz2 hk.out
        clear hzx hzy hin hev
        go_wp2_with (go_at_call 12; go_must (refine hev1.mono ?_; rintro e w3 ⟨rfl, h⟩; replace h := h.symm; subst h))
        go_ret
        exact ⟨z, rfl, hu1, hid (fun x hx => by cases hx; rfl), hD2, (hc0.trans hc1).trans hc2⟩
      | none =>
        replace hk := hid hk
        go_enter Try.func49, Try.ntmps49
        go_upto_region 11 with (first
          | (go_at_call 49; have hq := hca; clear hca; go_must (refine hq.out.mono ?_; rintro e w1 ⟨z1, rfl, hz1, hzx, hD1, hc1⟩; replace hD1 : DunI gr gw n p0 p1 kv W fu st 0 va w1 := hD1; have A1 := hc1.arr A hwg; have k4' := A1.cell 4; have k3' := A1.cell 3; have hlw : Below N _ w1 := hc1.bl (fun i hi => ⟨by omega, by omega⟩); have r0 := (hlw.cell (p := ⟨g, off + 5, none⟩) hgN).trans r0; have r1 := (hlw.cell (p := ⟨g, off + 5 + 1, none⟩) hgN).trans r1; have r2 := (hlw.cell (p := ⟨g, off + 5 + 2, none⟩) hgN).trans r2; have r3 := (hlw.cell (p := ⟨g, off + 5 + 3, none⟩) hgN).trans r3; have r4 := (hlw.cell (p := ⟨g, off + 5 + 4, none⟩) hgN).trans r4; have hcb1 := hcb.out w1 hD1 hc1))
          | (go_at_call 49; go_must (refine hcb1.mono ?_; rintro e w2 ⟨z2, rfl, hz2, hzy, hD2, hc2⟩; replace hD2 : DunI gr gw n p0 p1 kv W fu st 0 va w2 := hD2; have k3b := (hc2.arr A1 hwg).cell 3; have d6 := hD2.ar.cell 6)))
        obtain rfl := hzx.out x rfl
        obtain rfl := hzy.out y rfl
        have hev1 := hev.out z1 z2 w2 hz1 hz2
        have hin := ev_in (op := t.nd.o) (x := z1) (y := z2) hoo.out
        rw [hin.1, hin.2, hk.out] at hev1
        have htr := trap_any w2 hD2
        clear hzx hzy hin hev
        go_wp2_with (first
          | (go_at_call 12; go_must (refine hev1.mono ?_; rintro e w3 ⟨rfl, h⟩; replace h := h.symm; subst h))
          | (go_at_call 51; go_must (refine htr.mono ?_; rintro e w3 ⟨rfl, hD3, hc3⟩)))
        go_ret
        exact ⟨0, rfl, by simp [U64], hid (fun x hx => by cases hx), hD3, ((hc0.trans hc1).trans hc2).trans hc3⟩
theorem dval_any (hg : gr ≠ gv) (hl : N ≤ gr) : ∀ d : Nat, DvAt N gr gw n p0 p1 kv W fu st va gv nv V d
  | 0 => fun w cs t _ _ _ _ hok => by obtain ⟨_, _, h⟩ := hok; cases h
  | d + 1 => dval_s hg hl (dval_any hg hl d)
end Go.Proofs.Ytmljihggooaboaa
