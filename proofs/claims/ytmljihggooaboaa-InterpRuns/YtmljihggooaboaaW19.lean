/- Jg, QVk, Ma, Mc, Mn, Cd, QVg. -/
import Derived.Test.YtmljihggooaboaaW18
import Derived.Test.YtmljihggooaboaaW09
import Derived.Handy
import Derived.BigQuiet
import Derived.BigRegion
import Derived.Laws.MakeOwn
import Derived.Test.YtmljihggooaboaaW13
import Derived.Test.YtmljihggooaboaaW14
import Derived.Test.YtmljihggooaboaaW01
import Derived.Test.YtmljihggooaboaaW05
import Derived.Test.YtmljihggooaboaaW15
import Derived.ChangeKeysEq
import Derived.Deep.DeepCutAuto
import Derived.Deep.DrawnRows
import Derived.Deep.MidRow
import Derived.Deep.QuietTactic
import Derived.Deep.RegionHeld3
import Derived.Deep.RegionLaw
import Derived.Deep.RegionWith
import Derived.Deep.WholeRow
import Derived.DeepKeys3
import Derived.Great.BuildSlice
import Derived.Laws.AppendOwnNone
import Derived.Laws.BitsLemmas
import Derived.Laws.BytesArg
import Derived.Laws.CopyOwn
import Derived.Laws.ResultCell
import Derived.Laws.Tables
import Derived.Lib.SlBytesConst
import Derived.LoopIn
import Derived.LoopNIn
import Derived.Maps.AppendAt
import Derived.OwnWalkIn
import Derived.RangeFuncBound
import Derived.RangeFuncCalls
import Derived.RangeFuncLeaves
import Derived.RangeFuncNested
import Derived.RangeFuncRecord
import Derived.Shelf.Abstract
import Derived.Shelf.RegionOpen
import Derived.TacticsInMore
import Derived.WalkKit
import Derived.WalkLawsBesides
import Derived.WalkSpells
import Derived.Test.YtmljihggooaboaaW12
import Derived.Test.YtmljihggooaboaaRows
import Derived.Test.YtmljihggooaboaaW17
/- Layer interp: SHash. -/
namespace Go.Proofs.Ytmljihggooaboaa
open Go.RowKit
set_option maxRecDepth 100000
set_option linter.unusedVariables false
set_option linter.unusedSimpArgs false

theorem tk4 {P : Program} {ops : Array Oper} {Q : Exit → Act → World → Prop} {md : Region.Mode} {S : World → Prop} (i : Nat) {dst : Option Tmp} {op : Op} {ty : TypeId} {pos : String} {af : Array Edge} {gd : Option (Nat × Bool)} {v : Value} {fuel : Nat} {listed : Array Bool} {a a' : Act} {w : World} (hi : ops[i]? = some ⟨dst, op, ty, pos, af, gd⟩)
    (h : wpAnyH P md ops Q S fuel (listed.setIfInBounds i true) a' w)
    (hs : Region.noSelect ops = true := by kernel_rfl) (hf : Region.free md ops listed i = true := by kernel_rfl) (hr : (Region.ready md ops listed).contains i = true := by kernel_rfl)
    (hw : Region.wanted ⟨dst, op, ty, pos, af, gd⟩ (yielded ops a.tmps) = true := by rfl)
    (hy : ∀ u, S u → (execOp a.eval ⟨dst, op, ty, pos, af, gd⟩).run P u = .ok (.value v) u := by (intro u hSw; obtain ⟨s1, s2, s3, s4⟩ := hSw; go_simp; try (with_reducible rfl)))
    (hQ : ∀ c a w, Q (.panic c) (a.put dst v) w → Q (.panic c) a w := by exact fun _ _ _ h => h)
    (ha : a.put dst v = a' := by (conv => (lhs; try simp only [Act.put, List.setIfInBounds_toArray, List.set_cons_zero, List.set_cons_succ])); (try rfl)) (hS : S w := by assumption) : wpAnyH P md ops Q S (fuel + 1) listed a w :=
  wpAnyH_take hi hs hf hr hQ (Or.inl ⟨hw, hy⟩) hS (by rw [ha]; exact h)
theorem tk5 {P : Program} {ops : Array Oper} {Q : Exit → Act → World → Prop} {md : Region.Mode} {S : World → Prop} (i : Nat) {dst : Option Tmp} {op : Op} {ty : TypeId} {pos : String} {af : Array Edge} {gd : Option (Nat × Bool)} {v : Value} {fuel : Nat} {listed : Array Bool} {a a' : Act} {w : World} (hi : ops[i]? = some ⟨dst, op, ty, pos, af, gd⟩)
    (h : wpAnyH P md ops Q S fuel (listed.setIfInBounds i true) a' w)
    (hs : Region.noSelect ops = true := by kernel_rfl) (hf : Region.free md ops listed i = true := by kernel_rfl) (hr : (Region.ready md ops listed).contains i = true := by kernel_rfl)
    (hw : Region.wanted ⟨dst, op, ty, pos, af, gd⟩ (yielded ops a.tmps) = true := by rfl)
    (hy : ∀ u, S u → (execOp a.eval ⟨dst, op, ty, pos, af, gd⟩).run P u = .ok (.value v) u := by (intro u hSw; obtain ⟨s1, s2, s3, s4, s5⟩ := hSw; go_simp; try (with_reducible rfl)))
    (hQ : ∀ c a w, Q (.panic c) (a.put dst v) w → Q (.panic c) a w := by exact fun _ _ _ h => h)
    (ha : a.put dst v = a' := by (conv => (lhs; try simp only [Act.put, List.setIfInBounds_toArray, List.set_cons_zero, List.set_cons_succ])); (try rfl)) (hS : S w := by assumption) : wpAnyH P md ops Q S (fuel + 1) listed a w :=
  wpAnyH_take hi hs hf hr hQ (Or.inl ⟨hw, hy⟩) hS (by rw [ha]; exact h)
variable {X : World → Prop} {Z N gr gw n gm : Nat} {p0 p1 kv mv : Value} {gv nv : Nat} {W V : List Int} {d k : Nat} {t : StT (d + 1)} {cs : List Value} {ps : List Int}
set_option maxHeartbeats 2000000 in
theorem stmt_hash {a b z : Int} (w : World) (hN : N ≤ w.heap.size) (hX : XK X Z gr gw) (h : KI X Z N gr gw n p0 p1 kv mv gv nv ⟨W, V, k + 1⟩ w) (hM : StM N w (d + 1) cs t) (hok : okS ps nv (d + 1) t) (hps : ∀ p ∈ ps, p ≤ 64) (h1 : t.nd.k = 7) (hev : evs W V 8 t.nd.a = some [a, b, z]) (hUa : U64 a) (hUb : U64 b) (hUz : U64 z) {W2 : List Int} (hh0 : hsW W t.nd.t a b z = some W2) :
    Calls Try.prog 35 (stArgs gr gv nv cs) w (KP (KI X Z N gr gw n p0 p1 kv mv gv nv) (PP gr gw gm gv) ⟨0, 0, ⟨W2, V, k⟩⟩ w) := by
  obtain ⟨hmy, hoa, -, -⟩ := okS_s hok
  obtain ⟨sa, na, ca, sb, nb, cb, sc, nc, cc, hcs, hk0, hSa, hSb, hSc⟩ := hM
  rw [h1] at hcs
  subst hcs
  have hI := h.st
  replace hI : StI N gr gw n p0 p1 kv mv gv nv W V ((k + 1 : Nat) : Int) w := hI
  have hk : k ≤ 4194304 := by have := h.lf; simp at this; omega
  have b0 := ab w (.cells (stC 7 t.nd.v t.nd.f t.nd.t (.slice sa na ca) (.slice sb nb cb) (.slice sc nc cc)).toArray 78)
  have hI1 := hI.bl b0
  have hbn := burn_ok _ hI1.run hk
  obtain ⟨hI2, hvs⟩ := begun (k := k) _ (by simp; omega) hI1 (hSa.imp (b0.mono hN) (ExM.below (b0.mono hN) 8)) hoa (by rw [hSa.len.out]; exact fewS hps hmy)
  have A := (Arr.new w 78 (stC 7 t.nd.v t.nd.f t.nd.t (.slice sa na ca) (.slice sb nb cb) (.slice sc nc cc)).toArray).setOther (a := ⟨gr, 3, none⟩) (.int .i64 (k : Int)) (by have := hI.run.ar.lt; show w.heap.size ≠ gr; omega)
  have a4 := A.cell 4
  have hc : Ch (fun k => k = gr ∨ k = gw ∨ k = gv) w ((w.alloc (.cells (stC 7 t.nd.v t.nd.f t.nd.t (.slice sa na ca) (.slice sb nb cb) (.slice sc nc cc)).toArray 78)).setCell ⟨gr, 3, none⟩ (.int .i64 (k : Int))) := (Ch.ob b0).st _ (fun _ => .inl rfl)
  have hKQ : ∀ u, Below _ _ u → KI X Z N gr gw n p0 p1 kv mv gv nv ⟨W, V, k⟩ u := fun u hb => (KI.of (gm := 0) hX h (r := ⟨0, 0, ⟨W, V, k⟩⟩) (by simp) ⟨rfl, hI2, hc⟩).2.1.bl hX hb
  have hcP : ∀ u, Below _ _ u → Ch (PP gr gw gm gv) w u := fun u hb => (hc.imp fun k hk => by rcases hk with hk | hk | hk; exact .inl hk; exact .inr (.inl hk); exact .inr (.inr (.inr hk))).trans (Ch.ob hb)
  have hwP : w.heap.size ≠ gr ∧ w.heap.size ≠ gw ∧ w.heap.size ≠ gv := by
    have q1 := hI.run.ar.lt; have q2 := hI.run.aw.lt; have q3 := hI.var.av.lt
    omega
  have htg : 0 ≤ t.nd.t := by simp [mayS, h1] at hmy; omega
  have hzr := h.st.run
  rw [hev] at hvs
  clear hI hSa hSb hSc hoa hmy hok hI1 h1 hev h
  unfold stArgs
  generalize hQ : ((w.alloc (.cells (stC 7 t.nd.v t.nd.f t.nd.t (.slice sa na ca) (.slice sb nb cb) (.slice sc nc cc)).toArray 78)).setCell ⟨gr, 3, none⟩ (.int .i64 (k : Int))) = Q at *
  unfold stC at *
  go_enter Try.func35, Try.ntmps35
  go_upto_region 22 with (first
    | (go_at_call 42; go_must (refine hbn.mono ?_; rintro e w1 ⟨rfl, h, -⟩; replace h := h.symm; subst h))
    | (go_at_call 43; go_must (refine hvs.mono ?_; rintro e w2 ⟨hn, -, hb2⟩; obtain ⟨g, c, hn', hg, hcl, hlc, hgl⟩ := hn _ rfl; subst hn'; have A2 := A.bl hb2; have k0 := A2.cell 0)))
  have hK2 := hKQ _ hb2
  have hcw := hcP _ hb2
  have hln := hzr.len.out
  have hh : Calls Try.prog 46 #[.pointer (some ⟨gr, 0, none⟩), .int .i64 t.nd.t, .int .u64 a, .int .u64 b, .int .u64 z] w2.drew fun e w' => e = .returned (.tuple #[]) ∧ RunI gr gw n p0 p1 kv mv W2 k w' ∧ Ch (fun k => k = gw) w2.drew w' := by
    unfold hsW at hh0
    split at hh0
    · cases hh0
    split at hh0
    · cases hh0
    split at hh0
    · cases hh0
    cases hh0
    have q1 := hUa.1; have q2 := hUz.1
    rename_i e1 e2 e3
    have e4 := Decidable.not_not.1 e2
    have e5 := Decidable.not_not.1 e3
    rw [hln] at e4 e5
    exact hash_ok (ka := a.toNat) (s := z.toNat) w2.drew hK2.st.dw.run htg (by omega) (by omega) hUb (by omega) (by omega) (by rcases e5 with e | e; exact .inl (by omega); exact .inr (by rw [Int.toNat_of_nonneg q2]; exact e))
  have x0 := hcl 0 _ rfl
  have x1 := hcl 1 _ rfl
  have x2 := hcl 2 _ rfl
  have k3 : w2.cell? ⟨w.heap.size, 3, none⟩ = some (.int .i64 t.nd.t) := A2.cell 3
  have hgw : g ≠ gw := by have := hI2.run.aw.lt; omega
  clear hcl hvs hbn a4 hKQ hcP A2 k0
  refine rgn (fun u => u.cell? ⟨w.heap.size, 3, none⟩ = some (.int .i64 t.nd.t) ∧ u.cell? ⟨g, 0, none⟩ = some (.int .u64 a) ∧ u.cell? ⟨g, 1, none⟩ = some (.int .u64 b) ∧ u.cell? ⟨g, 2, none⟩ = some (.int .u64 z)) ⟨k3, x0, x1, x2⟩ (fun hS => ?_)
  refine tk4 0 rfl ?_
  refine tk4 1 rfl ?_
  refine tk4 2 rfl ?_
  refine tk4 3 rfl ?_
  refine tk4 4 rfl ?_
  refine tk4 5 rfl ?_
  refine tk4 6 rfl ?_
  refine tk4 7 rfl ?_
  refine tk4 8 rfl ?_
  refine tk4 9 rfl ?_
  refine tk4 10 rfl ?_
  refine tk4 11 rfl ?_
  refine rd 12 rfl (fun K hK => ?_)
  go_simp
  refine hh.mono ?_
  rintro e w3 ⟨rfl, hR3, hc3⟩
  have hV3 : VarI gv nv V w3 := ⟨hc3.arr hK2.st.var.av.drew (fun e => hK2.st.n2 e.symm), hK2.st.var.len, hK2.st.var.n64, hK2.st.var.vU⟩
  have hK3 : KI X Z N gr gw n p0 p1 kv mv gv nv ⟨W2, V, k⟩ w3 := ⟨⟨hR3, hV3, hK2.st.n1, hK2.st.n2, hK2.st.l1, hK2.st.l2, hK2.st.l3⟩, hX _ _ (hX _ _ hK2.x hK2.zz (Ch.refl _ _).dw) hK2.zz (hc3.imp fun k hk => .inr (.inl hk)), hK2.z, hK2.lf⟩
  have hcP3 : Ch (PP gr gw gm gv) w w3 := (hcw.dw).trans (hc3.imp fun k hk => .inr (.inl hk))
  have T : ∀ (q o : Nat) (y : Value), q ≠ gw → w2.cell? ⟨q, o, none⟩ = some y → w3.cell? ⟨q, o, none⟩ = some y := fun q o y h1 h2 => (World.cell?_of_block (hc3.block q (block_lt_of_cell h2) h1)).trans h2
  have S3 := And.intro (T _ _ _ hwP.2.1 k3) (And.intro (T _ _ _ hgw x0) (And.intro (T _ _ _ hgw x1) (T _ _ _ hgw x2)))
  go_wp2_with fail
  refine hK.out _ _ S3 (fun hS3 => ?_)
  clear hK K
  try simp only [Act.put, List.setIfInBounds_toArray, List.set_cons_zero, List.set_cons_succ]
  refine dn ?_
  go_wp2_with fail
  go_end0
  exact ⟨rfl, hK3, hcP3⟩
set_option maxHeartbeats 2000000 in
theorem stmt_hashno {a b z : Int} (w : World) (hN : N ≤ w.heap.size) (hX : XK X Z gr gw) (h : KI X Z N gr gw n p0 p1 kv mv gv nv ⟨W, V, k + 1⟩ w) (hM : StM N w (d + 1) cs t) (hok : okS ps nv (d + 1) t) (hps : ∀ p ∈ ps, p ≤ 64) (h1 : t.nd.k = 7) (hev : evs W V 8 t.nd.a = some [a, b, z]) (hUa : U64 a) (hUb : U64 b) (hUz : U64 z) (hh0 : hsW W t.nd.t a b z = none) :
    Calls Try.prog 35 (stArgs gr gv nv cs) w (KP (KI X Z N gr gw n p0 p1 kv mv gv nv) (PP gr gw gm gv) ⟨2, 0, ⟨W, V, k⟩⟩ w) := by
  obtain ⟨hmy, hoa, -, -⟩ := okS_s hok
  obtain ⟨sa, na, ca, sb, nb, cb, sc, nc, cc, hcs, hk0, hSa, hSb, hSc⟩ := hM
  rw [h1] at hcs
  subst hcs
  have hI := h.st
  replace hI : StI N gr gw n p0 p1 kv mv gv nv W V ((k + 1 : Nat) : Int) w := hI
  have hk : k ≤ 4194304 := by have := h.lf; simp at this; omega
  have b0 := ab w (.cells (stC 7 t.nd.v t.nd.f t.nd.t (.slice sa na ca) (.slice sb nb cb) (.slice sc nc cc)).toArray 78)
  have hI1 := hI.bl b0
  have hbn := burn_ok _ hI1.run hk
  obtain ⟨hI2, hvs⟩ := begun (k := k) _ (by simp; omega) hI1 (hSa.imp (b0.mono hN) (ExM.below (b0.mono hN) 8)) hoa (by rw [hSa.len.out]; exact fewS hps hmy)
  have A := (Arr.new w 78 (stC 7 t.nd.v t.nd.f t.nd.t (.slice sa na ca) (.slice sb nb cb) (.slice sc nc cc)).toArray).setOther (a := ⟨gr, 3, none⟩) (.int .i64 (k : Int)) (by have := hI.run.ar.lt; show w.heap.size ≠ gr; omega)
  have a4 := A.cell 4
  have hc : Ch (fun k => k = gr ∨ k = gw ∨ k = gv) w ((w.alloc (.cells (stC 7 t.nd.v t.nd.f t.nd.t (.slice sa na ca) (.slice sb nb cb) (.slice sc nc cc)).toArray 78)).setCell ⟨gr, 3, none⟩ (.int .i64 (k : Int))) := (Ch.ob b0).st _ (fun _ => .inl rfl)
  have hKQ : ∀ u, Below _ _ u → KI X Z N gr gw n p0 p1 kv mv gv nv ⟨W, V, k⟩ u := fun u hb => (KI.of (gm := 0) hX h (r := ⟨0, 0, ⟨W, V, k⟩⟩) (by simp) ⟨rfl, hI2, hc⟩).2.1.bl hX hb
  have hcP : ∀ u, Below _ _ u → Ch (PP gr gw gm gv) w u := fun u hb => (hc.imp fun k hk => by rcases hk with hk | hk | hk; exact .inl hk; exact .inr (.inl hk); exact .inr (.inr (.inr hk))).trans (Ch.ob hb)
  have hwP : w.heap.size ≠ gr ∧ w.heap.size ≠ gw ∧ w.heap.size ≠ gv := by
    have q1 := hI.run.ar.lt; have q2 := hI.run.aw.lt; have q3 := hI.var.av.lt
    omega
  have htg : 0 ≤ t.nd.t := by simp [mayS, h1] at hmy; omega
  have hzr := h.st.run
  rw [hev] at hvs
  clear hI hSa hSb hSc hoa hmy hok hI1 h1 hev h
  unfold stArgs
  generalize hQ : ((w.alloc (.cells (stC 7 t.nd.v t.nd.f t.nd.t (.slice sa na ca) (.slice sb nb cb) (.slice sc nc cc)).toArray 78)).setCell ⟨gr, 3, none⟩ (.int .i64 (k : Int))) = Q at *
  unfold stC at *
  go_enter Try.func35, Try.ntmps35
  go_upto_region 22 with (first
    | (go_at_call 42; go_must (refine hbn.mono ?_; rintro e w1 ⟨rfl, h, -⟩; replace h := h.symm; subst h))
    | (go_at_call 43; go_must (refine hvs.mono ?_; rintro e w2 ⟨hn, -, hb2⟩; obtain ⟨g, c, hn', hg, hcl, hlc, hgl⟩ := hn _ rfl; subst hn'; have A2 := A.bl hb2; have k0 := A2.cell 0)))
  have hK2 := hKQ _ hb2
  have hcw := hcP _ hb2
  have hh := hash_no w2.drew hK2.st.dw.run htg hUa hUb hUz hh0
  have x0 := hcl 0 _ rfl
  have x1 := hcl 1 _ rfl
  have x2 := hcl 2 _ rfl
  have k3 : w2.cell? ⟨w.heap.size, 3, none⟩ = some (.int .i64 t.nd.t) := A2.cell 3
  have hgw : g ≠ gw := by have := hI2.run.aw.lt; omega
  clear hcl hvs hbn a4 hKQ hcP A2 k0
  refine rgn (fun u => u.cell? ⟨w.heap.size, 3, none⟩ = some (.int .i64 t.nd.t) ∧ u.cell? ⟨g, 0, none⟩ = some (.int .u64 a) ∧ u.cell? ⟨g, 1, none⟩ = some (.int .u64 b) ∧ u.cell? ⟨g, 2, none⟩ = some (.int .u64 z)) ⟨k3, x0, x1, x2⟩ (fun hS => ?_)
  refine tk4 0 rfl ?_
  refine tk4 1 rfl ?_
  refine tk4 2 rfl ?_
  refine tk4 3 rfl ?_
  refine tk4 4 rfl ?_
  refine tk4 5 rfl ?_
  refine tk4 6 rfl ?_
  refine tk4 7 rfl ?_
  refine tk4 8 rfl ?_
  refine tk4 9 rfl ?_
  refine tk4 10 rfl ?_
  refine tk4 11 rfl ?_
  refine rd 12 rfl (fun K hK => ?_)
  go_simp
  refine hh.mono ?_
  rintro e w3 ⟨rfl, hw3⟩
  replace hw3 := hw3.symm
  subst hw3
  exact ⟨rfl, rfl, hK2.bl hX (Below.refl _ w2).drew, hcw.dw⟩
end Go.Proofs.Ytmljihggooaboaa
/- Layer interp: what the layers below give. -/
namespace Go.Proofs.Ytmljihggooaboaa
open Go.RowKit
set_option maxRecDepth 100000
set_option linter.unusedVariables false
set_option linter.unusedSimpArgs false

/-- The number of the first k of eight bytes. -/
def pcN (bs : List Int) (p : Nat) : Nat → Int
  | 0 => 0
  | k + 1 => pcN bs p k * 256 + bat bs (p + k)
theorem bat_rg {bs : List Int} (h : Bts bs) (t : Nat) : 0 ≤ bat bs t ∧ bat bs t ≤ 255 := by
  unfold bat
  by_cases ht : t < bs.length
  · rw [List.getD_eq_getElem?_getD, List.getElem?_eq_getElem ht]
    exact h _ (List.getElem_mem ht)
  · rw [List.getD_eq_getElem?_getD, List.getElem?_eq_none (by omega)]
    simp
theorem pcN_rg {bs : List Int} (h : Bts bs) (p : Nat) : ∀ k, 0 ≤ pcN bs p k ∧ pcN bs p k < 256 ^ k
  | 0 => by simp [pcN]
  | k + 1 => by
    have ih := pcN_rg h p k
    have hb := bat_rg h (p + k)
    have e : (256 : Int) ^ (k + 1) = 256 ^ k * 256 := by rw [Int.pow_succ]
    simp only [pcN, e]; omega
theorem pow256 {k : Nat} (h : k < 8) : (256 : Int) ^ k ≤ 72057594037927936 := by
  match k, h with
  | 0, _ => decide
  | 1, _ => decide
  | 2, _ => decide
  | 3, _ => decide
  | 4, _ => decide
  | 5, _ => decide
  | 6, _ => decide
  | 7, _ => decide
theorem pcN_step {bs : List Int} (h : Bts bs) (p : Nat) {k : Nat} (hk : k < 8) : bits .or .u64 (IntKind.u64.wrap (pcN bs p k * 256)) (IntKind.u64.wrap (bat bs (p + k))) = pcN bs p (k + 1) := by
  have h1 := pcN_rg h p k
  have h2 := pow256 hk
  have hb := bat_rg h (p + k)
  rw [wrap64_of (by omega) (by omega), wrap64_of (by omega) (by omega), or8 _ _ (by omega) (by omega) hb.1 hb.2]
  rfl
end Go.Proofs.Ytmljihggooaboaa
/- Layer interp: what the layers below give. -/
namespace Go.Proofs.Ytmljihggooaboaa
open Go.RowKit
set_option maxRecDepth 100000
set_option linter.unusedVariables false
set_option linter.unusedSimpArgs false

/-- A sum, as bytes. -/
def shl (L : List Int) : List Int := (List.range 32).map (shaB (bat L) L.length)
theorem shl_len (L : List Int) : (shl L).length = 32 := by simp [shl]
theorem sha_h8 (L : List Int) : sha L = h8 (shl L) := by
  simp only [sha, u8s, arr, h8, by8, shl, List.map_map]
  congr 1
end Go.Proofs.Ytmljihggooaboaa
/- Layer interp: what the layers below give. -/
namespace Go.Proofs.Ytmljihggooaboaa
open Go.RowKit
set_option maxRecDepth 100000
set_option linter.unusedVariables false
set_option linter.unusedSimpArgs false

/-- A sum out of memory. -/
theorem ld24 {ops : Array Oper} {rest : List Oper} {o : Oper} {a : Act} {w : World} {Q : Exit → Act → World → Prop} (hgd : o.guard = none) (x : Operand) (ho : o.op = .load 55 x)
    (b off : Nat) (hx : a.eval x = .pointer (some ⟨b, off, none⟩)) (X : List Int) (hX : X.length = 32) (hc : w.rangeAt b off (by8 X))
    (h : wpList Try.prog ops Q rest (a.put o.dst (.agg (h8 X))) w) : wpList Try.prog ops Q (o :: rest) a w :=
  wpList_load_mid hgd 55 x ho b off hx (by8 X) _ hc Try.underlying55 rfl (by rw [by8_len, hX]; exact size24) h
end Go.Proofs.Ytmljihggooaboaa
/- Layer interp: what the layers below give. -/
namespace Go.Proofs.Ytmljihggooaboaa
open Go.RowKit Go.Shelf
set_option maxRecDepth 100000
set_option linter.unusedVariables false
set_option linter.unusedSimpArgs false

/-- Why a tree may not be. -/
def rE (d : Int) (n : Nat) : Int := if 0 ≤ d ∧ d ≤ 16 then (if n ≤ 2 ^ d.toNat then 0 else 4) else 2
end Go.Proofs.Ytmljihggooaboaa
/- Layer interp: what the layers below give. -/
namespace Go.Proofs.Ytmljihggooaboaa
open Go.RowKit
set_option maxRecDepth 100000
set_option linter.unusedVariables false
set_option linter.unusedSimpArgs false

theorem y24 {ops : Array Oper} {S : World → Prop} {op : Oper} {a : Act} (hw : Region.wanted op (yielded ops a.tmps) = true) (x : Operand) (ho : op.op = .load 55 x)
    (b o : Nat) (hx : a.eval x = .pointer (some ⟨b, o, none⟩)) (X : List Int) (hX : X.length = 32) (hS : ∀ w, S w → w.rangeAt b o (by8 X)) : YieldsIf Try.prog ops S op (.agg (h8 X)) a :=
  yieldsIf_load_mid hw 55 x ho b o hx (by8 X) _ hS Try.underlying55 rfl (by rw [by8_len, hX]; exact size24)
end Go.Proofs.Ytmljihggooaboaa
/- Layer interp: what the layers below give. -/
namespace Go.Proofs.Ytmljihggooaboaa
open Go.RowKit
set_option maxRecDepth 100000
set_option linter.unusedVariables false
set_option linter.unusedSimpArgs false

/-- The first entry that says to be a sum's. -/
structure Fst (es : List En) (X : List Int) (i : Nat) (e : En) : Prop where
  here : es[i]? = some e
  sm : e.sm = X
  first : ∀ (j : Nat) (f : En), j < i → es[j]? = some f → f.sm ≠ X
def pre (es : List En) (X : List Int) : Option En := match es.find? (fun e => decide (e.sm = X)) with
  | some e => if shl e.bs = X then some e else none
  | none => none
theorem Fst.find {es : List En} {X : List Int} {i : Nat} {e : En} (h : Fst es X i e) : es.find? (fun e => decide (e.sm = X)) = some e := by
  rw [List.find?_eq_some_iff_getElem]
  obtain ⟨hi, he⟩ := List.getElem?_eq_some_iff.1 h.here
  refine ⟨by simpa using h.sm, i, hi, he, fun j hj => ?_⟩
  have := h.first j _ hj (List.getElem?_eq_getElem (by omega))
  simpa using this
theorem Fst.pre {es : List En} {X : List Int} {i : Nat} {e : En} (h : Fst es X i e) : pre es X = if shl e.bs = X then some e else none := by
  unfold Ytmljihggooaboaa.pre; rw [h.find]
theorem pre_none {es : List En} {X : List Int} (h : ∀ (j : Nat) (f : En), es[j]? = some f → f.sm ≠ X) : pre es X = none := by
  have : es.find? (fun e => decide (e.sm = X)) = none := by
    rw [List.find?_eq_none]
    intro f hf
    obtain ⟨j, hj⟩ := List.getElem?_of_mem hf
    simpa using h j f hj
  unfold pre; rw [this]
/-- What place answers. -/
def PlPost (es : List En) (X : List Int) (w : World) (r : Ending) (w' : World) : Prop := Below w.heap.size w w' ∧
  ((∃ i e, Fst es X i e ∧ r = .returned (.tuple #[.int .i64 (i : Nat), .bool (decide (shl e.bs = X))])) ∨ ((∀ (j : Nat) (f : En), es[j]? = some f → f.sm ≠ X) ∧ r = .returned (.tuple #[.int .i64 0, .bool false])))
theorem eq_sum (L X : List Int) (hX : X.length = 32) (w : World) : (binOp .eql 55 (.agg (sha L)) (.agg (h8 X))).run Try.prog w = .ok (.bool (decide (shl L = X))) w := by
  rw [sha_h8]; exact run_eq24 (shl_len L) hX w
set_option maxHeartbeats 1000000 in
theorem place_any (sp : Option Addr) (n cap : Nat) (es : List En) (X : List Int) (N : Nat) (w : World) (hS : ES N w sp n cap es) (hX : X.length = 32) :
    Calls Try.prog 86 #[.slice sp n cap, .agg (h8 X)] w (PlPost es X w) := by
  have hl := hS.len
  have hsm := hS.small
  have hS := hS.here
  go_enter Try.func86, Try.ntmps86
  go_wp2_with fail
  go_loopw [10] (fun q wr => ∃ (k : Nat), q = .int .i64 (k : Int) ∧ k ≤ n ∧ Below w.heap.size w wr ∧ Arr wr w.heap.size 55 (h8 X) ∧ Hid (∀ (j : Nat) (f : En), j < k → es[j]? = some f → f.sm ≠ X))
    (fun q _ => n - (intOf q).toNat)
  case atStart => exact ⟨0, rfl, by omega, (Below.refl _ _).alloc (Nat.le_refl _) _, Arr.new w 55 _, Hid.mk' (fun j f hj => by omega)⟩
  case round =>
    obtain ⟨k, rfl, hk, hbl, hH, hno⟩ := hrel
    by_cases hlt : k < n
    · have hI : (k : Int) < n := by omega
      have hSr := hS.below hbl
      obtain ⟨g, off, rfl, hgN, hR⟩ := hSr.at0 (by omega)
      obtain ⟨e, he⟩ : ∃ e, es[k]? = some e := ⟨es[k]'(by rw [← hl.out]; exact hlt), List.getElem?_eq_getElem _⟩
      have hok := hSr.ok e (List.mem_of_getElem? he)
      have he32 := hok.s32
      have hRe := hR k e he
      have AE := Arr.new wr 57 e.arr
      have rE := range_sm (rangeE AE)
      have cE := range_c0 (rangeE AE)
      have hbE := alloc_bel' wr (.cells e.arr 57)
      have hbW := hbl.alloc hbl.size (.cells e.arr 57)
      have hH1 := (hH.alloc (.cells e.arr 57)).range
      have q1 := run_eq24 he32 hX
      have hHlt := hH.lt
      replace he := Hid.mk' he
      by_cases hq : e.sm = X
      · have hd : decide (e.sm = X) = true := by simpa using hq
        rw [hd] at q1
        have hfst := Hid.mk' (Fst.mk he.out hq hno.out)
        have hq2 := eq_sum e.bs X hX
        have hbs := hok.body.below (hbE.mono hbl.size)
        replace hq := Hid.mk' hq
        clear hd
        go_upto_region 5 with (first
          | (refine ld54 (by rfl) _ (by rfl) g (off + k * 33) (by rfl) e he32 hRe ?_)
          | (refine st54n (by rfl) _ _ (by rfl) wr wr.heap.size rfl (by rfl) e (by rfl) (by rfl) he32 ?_)
          | (refine ld24 (by rfl) _ (by rfl) wr.heap.size (0 + 1) (by rfl) e.sm he32 rE ?_)
          | (refine ld24 (by rfl) _ (by rfl) w.heap.size 0 (by rfl) X hX hH1 ?_))
        refine wp_region_held_drew (S := fun u => Below (wr.alloc (.cells e.arr 57)).heap.size (wr.alloc (.cells e.arr 57)) u) (by kernel_rfl) ((Below.refl _ _).drew) (fun hHeld => ?_)
        refine wpAnyH_take (i := 0) (oi := ⟨_, _, _, _, _, _⟩) (v := ?_) rfl (by kernel_rfl) (by kernel_rfl) (by kernel_rfl) (fun _ _ _ h => h) (Or.inl ⟨by rfl, ?_⟩) (by assumption) ?_
        rotate_left
        · intro u hSw
          go_simp
          try (with_reducible rfl)
        try simp only [Act.put, List.setIfInBounds_toArray, List.set_cons_zero, List.set_cons_succ]
        refine wpAnyH_take (i := 1) (oi := ⟨_, _, _, _, _, _⟩) (v := ?_) rfl (by kernel_rfl) (by kernel_rfl) (by kernel_rfl) (fun _ _ _ h => h) (Or.inl ⟨by rfl, ?_⟩) (by assumption) ?_
        rotate_left
        · intro u hSw
          go_simp
          try (with_reducible rfl)
        try simp only [Act.put, List.setIfInBounds_toArray, List.set_cons_zero, List.set_cons_succ]
        refine wpAnyH_take (i := 2) (oi := ⟨_, _, _, _, _, _⟩) (v := ?_) rfl (by kernel_rfl) (by kernel_rfl) (by kernel_rfl) (fun _ _ _ h => h) (Or.inl ⟨by rfl, ?_⟩) (by assumption) ?_
        rotate_left
        · intro u hSw
          have cu := (hSw.cell (p := ⟨wr.heap.size, 0, none⟩) (by simp)).trans cE
          go_simp
          try (with_reducible rfl)
        try simp only [Act.put, List.setIfInBounds_toArray, List.set_cons_zero, List.set_cons_succ]
        refine wpAnyH_take (i := 4) (oi := ⟨_, _, _, _, _, _⟩) rfl (by kernel_rfl) (by kernel_rfl) (by kernel_rfl) (fun _ _ _ h => h) (y24 (by rfl) (.tmp 3) rfl (w.heap.size) (0) rfl X hX (fun u hu => range_below hH1 hu (by simp; omega))) (by assumption) ?_
        try simp only [Act.put, List.setIfInBounds_toArray, List.set_cons_zero, List.set_cons_succ]
        refine wpAnyH_ready (rs := [3]) (by kernel_rfl) (by simp) ?_
        refine AllReadyH.cons (o := ⟨_, _, _, _, _, _⟩) rfl (fun K hK => ?_) AllReadyH.nil
        go_simp
        refine (sum_sl e.sp e.n e.cap e.bs (wr.alloc (.cells e.arr 57)).drew hbs.len.out hbs.nil hbs.sl hbs.le (by have := hbs.small; omega)).mono ?_
        rintro r u ⟨rfl, hu⟩
        have hHu := ((Below.refl (wr.alloc (.cells e.arr 57)).heap.size (wr.alloc (.cells e.arr 57))).drew).trans (hu.mono (by simp))
        go_wp2_with fail
        refine hK.out _ _ hHu (fun hHeld => ?_)
        clear hK K
        try simp only [Act.put, List.setIfInBounds_toArray, List.set_cons_zero, List.set_cons_succ]
        refine wpAnyH_take (i := 5) (oi := ⟨_, _, _, _, _, _⟩) (v := ?_) rfl (by kernel_rfl) (by kernel_rfl) (by kernel_rfl) (fun _ _ _ h => h) (Or.inl ⟨by rfl, ?_⟩) (by assumption) ?_
        rotate_left
        · intro u hSw
          go_simp
          try (with_reducible rfl)
        try simp only [Act.put, List.setIfInBounds_toArray, List.set_cons_zero, List.set_cons_succ]
        refine wpAnyH_take (i := 6) (oi := ⟨_, _, _, _, _, _⟩) (v := ?_) rfl (by kernel_rfl) (by kernel_rfl) (by kernel_rfl) (fun _ _ _ h => h) (Or.inl ⟨by rfl, ?_⟩) (by assumption) ?_
        rotate_left
        · intro u hSw
          go_simp
          try (with_reducible rfl)
        try simp only [Act.put, List.setIfInBounds_toArray, List.set_cons_zero, List.set_cons_succ]
        refine wpAnyH_take (i := 7) (oi := ⟨_, _, _, _, _, _⟩) (v := ?_) rfl (by kernel_rfl) (by kernel_rfl) (by kernel_rfl) (fun _ _ _ h => h) (Or.inl ⟨by rfl, ?_⟩) (by assumption) ?_
        rotate_left
        · intro u hSw
          go_simp
          try (with_reducible rfl)
        try simp only [Act.put, List.setIfInBounds_toArray, List.set_cons_zero, List.set_cons_succ]
        refine wpAnyH_done (by kernel_rfl) ?_ _
        go_wp2_with fail
        go_ret2
        exact ⟨hbW.trans (hHeld.mono (by have := hbl.size; simp; omega)), .inl ⟨k, e, hfst.out, rfl⟩⟩
      · have hd : decide (e.sm = X) = false := by simpa using hq
        rw [hd] at q1
        have hn2 : Hid (∀ (j : Nat) (f : En), j < k + 1 → es[j]? = some f → f.sm ≠ X) := Hid.mk' (fun j f hj hf => by
          by_cases hjk : j = k
          · subst hjk; rw [he.out] at hf; cases hf; exact hq
          · exact hno.out j f (by omega) hf)
        replace hq := Hid.mk' hq
        clear hd
        go_wp2_with (first
          | (refine ld54 (by rfl) _ (by rfl) g (off + k * 33) (by rfl) e he32 hRe ?_)
          | (refine st54n (by rfl) _ _ (by rfl) wr wr.heap.size rfl (by rfl) e (by rfl) (by rfl) he32 ?_)
          | (refine ld24 (by rfl) _ (by rfl) wr.heap.size (0 + 1) (by rfl) e.sm he32 rE ?_)
          | (refine ld24 (by rfl) _ (by rfl) w.heap.size 0 (by rfl) X hX hH1 ?_))
        go_roundw
        case rel => exact ⟨k + 1, by go_num, by omega, hbW, hH.alloc _, hn2⟩
        case measure => simp [intOf]; omega
    · have hI : ¬ (k : Int) < n := by omega
      obtain rfl : k = n := by omega
      have hn2 : Hid (∀ (j : Nat) (f : En), es[j]? = some f → f.sm ≠ X) := Hid.mk' (fun j f hf => hno.out j f (by rw [hl.out]; exact (List.getElem?_eq_some_iff.1 hf).1) hf)
      go_wp2_with fail
      go_ret2
      exact ⟨hbl, .inr ⟨hn2.out, rfl⟩⟩
end Go.Proofs.Ytmljihggooaboaa
