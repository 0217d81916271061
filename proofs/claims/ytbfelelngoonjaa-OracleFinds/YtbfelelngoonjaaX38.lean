/- St, V11, V7. -/
import Derived.Test.YtbfelelngoonjaaX01
import Derived.Test.YtbfelelngoonjaaX02
import Derived.Test.YtbfelelngoonjaaX04
import Derived.Test.YtbfelelngoonjaaX06
import Derived.Test.YtbfelelngoonjaaX13
import Derived.Test.YtbfelelngoonjaaX14
import Derived.Test.YtbfelelngoonjaaX28
import Derived.Test.YtbfelelngoonjaaX18
import Derived.Test.YtbfelelngoonjaaX19
import Derived.Test.YtbfelelngoonjaaX24
import Derived.Test.YtbfelelngoonjaaX37
import Derived.BigQuiet
import Derived.BigRegion
import Derived.ChangeKeysEq
import Derived.Deep.DeepCutAuto
import Derived.Deep.DrawnRows
import Derived.Deep.MidRow
import Derived.Deep.QuietTactic
import Derived.Deep.RegionHeld3
import Derived.Deep.RegionLaw
import Derived.Deep.RegionWith
import Derived.Deep.WholeRow
import Derived.Great.BuildSlice
import Derived.Great.FillDense
import Derived.Laws.AppendOwnNone
import Derived.Laws.BitsLemmas
import Derived.Laws.BytesArg
import Derived.Laws.CopyOwn
import Derived.Laws.CopyRow
import Derived.Laws.MakeOwn
import Derived.Laws.OwnMore
import Derived.Laws.Tables
import Derived.Lib.AppendZeros
import Derived.Lib.SlBytesConst
import Derived.LoopIn
import Derived.LoopNIn
import Derived.Maps.AppendAt
import Derived.OwnWalkIn
import Derived.RangeFuncBound
import Derived.RangeFuncCalls
import Derived.RangeFuncLeaves
import Derived.RangeFuncNested
import Derived.RangeFuncRecord
import Derived.Shelf.Abstract
import Derived.Shelf.RegionOpen
import Derived.TacticsInMore
import Derived.WalkKit
import Derived.WalkLawsBesides
import Derived.WalkSpells
import Derived.Test.YtbfelelngoonjaaX32
import Derived.Test.YtbfelelngoonjaaX03
import Derived.Test.YtbfelelngoonjaaX05
import Derived.Test.YtbfelelngoonjaaX17
import Derived.Test.YtbfelelngoonjaaX12
import Derived.Test.YtbfelelngoonjaaX16
import Derived.Test.YtbfelelngoonjaaX23
import Derived.Test.YtbfelelngoonjaaX21
import Derived.Test.YtbfelelngoonjaaX31
import Derived.Test.YtbfelelngoonjaaX27
/- Layer oracle: what the layers below give. -/
namespace Go.Proofs.Ytbfelelngoonjaa
open Go.RowKit
set_option maxRecDepth 100000
set_option linter.unusedVariables false
set_option linter.unusedSimpArgs false

set_option maxHeartbeats 1000000 in
theorem refKnown_no (ps : List Ac) (sp : Option Addr) (n cap : Nat) (os : List Ou) (w : World) (h1 : ps.length = 32) (hok : ∀ a ∈ ps, AcOK a) (hn : n ≤ 140737488355328) (hl : n = os.length) (hm : may ps n = false) :
    Calls Try.prog 20 #[.agg (stA ps sp n cap)] w (RKPost ps os w) := by
  have h2 : ∀ a ∈ ps, a.lk.length = 32 := fun a ha => (hok a ha).l32
  have A0 := Arr.new w 38 (stA ps sp n cap)
  have B0 := alloc_bel' w (.cells (stA ps sp n cap) 38)
  have hM := refMay_any ps sp n cap (w.alloc (.cells (stA ps sp n cap) 38)) h1 hok hn
  rw [hm] at hM
  have hfin : Hid (rtE ps os = 2 ∧ (if may ps os.length = true then knB ps os else []) = []) := Hid.mk' (by unfold rtE; rw [← hl, hm]; exact ⟨rfl, rfl⟩)
  clear hl
  replace hM := Hid.mk' hM
  go_enter Try.func20, Try.ntmps20
  go_wp2_with (first
    | (refine ld30 (by rfl) _ (by rfl) w.heap.size 38 (by rfl) ps sp n cap h1 h2 A0 ?_)
    | (go_at_call 19; go_must (refine hM.out.mono ?_; rintro e w1 ⟨rfl, hb1⟩)))
  go_ret2
  exact ⟨_, [], by rw [hfin.out.1]; rfl, EO.nil _ _ _, Hid.mk' (by rw [hfin.out.2]; rfl), Hid.mk' (fun e he => (by cases he)), B0.trans (hb1.mono (by simp))⟩
theorem refKnown_any (ps : List Ac) (N : Nat) (sp : Option Addr) (n cap : Nat) (os : List Ou) (w : World) (hS : SS N w ps sp n cap os) : Calls Try.prog 20 #[.agg (stA ps sp n cap)] w (RKPost ps os w) := by
  cases hm : may ps n
  · exact refKnown_no ps sp n cap os w hS.a32.out hS.ok.out hS.outs.small hS.outs.len.out hm
  · exact refKnown_ok ps N sp n cap os w hS hm
end Go.Proofs.Ytbfelelngoonjaa
/- Layer oracle: Known, in memory of its own. -/
namespace Go.Proofs.Ytbfelelngoonjaa
open Go.RowKit Go.Shelf
set_option maxRecDepth 100000
set_option linter.unusedVariables false
set_option linter.unusedSimpArgs false
attribute [local go_sem] Oper.semAt_some

/-- What Known answers, in memory of its own. -/
def KnP (ps : List Ac) (os : List Ou) (w : World) (r : Ending) (w' : World) : Prop :=
  ∃ base ax v es, w.heap.size ≤ base ∧ r = .returned (.tuple #[v, .int .i64 (rtE ps os)]) ∧ EO base ax w' v es ∧ Hid (es.map En.bs = if may ps os.length = true then knB ps os else []) ∧ Hid (∀ e ∈ es, e.sm = shl e.bs) ∧ Below w.heap.size w w'
theorem RKPost.kn {ps : List Ac} {os : List Ou} {w w' : World} {r : Ending} (h : RKPost ps os w r w') : KnP ps os w r w' := by
  obtain ⟨v, es, h1, h2, h3, h4, h5⟩ := h
  exact ⟨_, _, v, es, by omega, h1, h2, h3, h4, h5⟩
set_option maxHeartbeats 1000000 in
theorem known6n_no (ps : List Ac) (sp : Option Addr) (n cap : Nat) (os : List Ou) (w : World) (h1 : ps.length = 32) (hok : ∀ a ∈ ps, AcOK a) (hn : n ≤ 140737488355328) (hl : n = os.length) (hm : may ps n = false) :
    Calls Try.prog 29 #[.agg (stA ps sp n cap)] w (KnP ps os w) := by
  have h2 : ∀ a ∈ ps, a.lk.length = 32 := fun a ha => (hok a ha).l32
  have A0 := Arr.new w 38 (stA ps sp n cap)
  have B0 := alloc_bel' w (.cells (stA ps sp n cap) 38)
  have hM := may_any ps sp n cap (w.alloc (.cells (stA ps sp n cap) 38)) h1 hok hn
  rw [hm] at hM
  have hfin : Hid (rtE ps os = 2 ∧ (if may ps os.length = true then knB ps os else []) = []) := Hid.mk' (by unfold rtE; rw [← hl, hm]; exact ⟨rfl, rfl⟩)
  clear hl
  replace hM := Hid.mk' hM
  refine (callsIn_wide (n := 3)).1 ?_
  refine callsIn_of_wp_marks Try.func29 rfl trivial ?_ rfl
  simp only [Try.ntmps29, List.size_toArray, List.length_cons, List.length_nil, Nat.reduceAdd, Nat.reduceSub, Array.replicate_succ, Array.replicate_zero, List.push_toArray, List.append_toArray, List.nil_append, List.cons_append]
  gi_wp2_with (first
    | (refine ld30w (by rfl) _ (by rfl) w.heap.size 38 (by rfl) ps sp n cap h1 h2 A0 ?_)
    | (refine ⟨trivial, ?_⟩; gi_at_call 53; go_must (refine (callsIn_wide.2 hM.out).mono ?_; rintro e w1 ⟨rfl, hb1⟩)))
  exact ⟨_, results_tmp2 rfl _ _ _, w.heap.size, w.heap.size, .slice none 0 0, [], Nat.le_refl _, by rw [hfin.out.1]; rfl, EO.nil _ _ _, Hid.mk' (by rw [hfin.out.2]; rfl), Hid.mk' (fun e he => by cases he), B0.trans (hb1.mono (by simp))⟩
set_option maxHeartbeats 4000000 in
theorem known6n_ok (ps : List Ac) (N : Nat) (sp : Option Addr) (n cap : Nat) (os : List Ou) (w : World) (hS : SS N w ps sp n cap os) (hm : may ps n = true) :
    Calls Try.prog 29 #[.agg (stA ps sp n cap)] w (KnP ps os w) := by
  have h1 := hS.a32.out
  have h2 := hS.l32
  have hok := hS.ok.out
  have hn32 := may_le hm
  have hnl := hS.outs.len
  have hS := hS.here
  have A0 := Arr.new w 38 (stA ps sp n cap)
  have B0 := alloc_bel' w (.cells (stA ps sp n cap) 38)
  have hM := may_any ps sp n cap (w.alloc (.cells (stA ps sp n cap) 38)) h1 hok (by omega)
  rw [hm] at hM
  have hfin : Hid (rtE ps os = 0 ∧ (if may ps os.length = true then knB ps os else []) = knB ps os) := Hid.mk' (by unfold rtE; rw [← hnl.out, hm]; exact ⟨rfl, rfl⟩)
  have hkl : Hid ((knB ps os).length = 96 + n) := Hid.mk' (by rw [knB_len h1 (by rw [← hnl.out]; exact hn32), hnl.out])
  replace hM := Hid.mk' hM
  refine (callsIn_wide (n := 3)).1 ?_
  refine callsIn_of_wp_marks Try.func29 rfl trivial ?_ rfl
  simp only [Try.ntmps29, List.size_toArray, List.length_cons, List.length_nil, Nat.reduceAdd, Nat.reduceSub, Array.replicate_succ, Array.replicate_zero, List.push_toArray, List.append_toArray, List.nil_append, List.cons_append]
  gi_wp2_with (first
    | (refine ld30w (by rfl) _ (by rfl) w.heap.size 38 (by rfl) ps sp n cap h1 h2 A2 ?_)
    | (refine ld30w (by rfl) _ (by rfl) w.heap.size 38 (by rfl) ps sp n cap h1 h2 A0 ?_)
    | (refine ⟨trivial, ?_⟩; gi_at_call 53; go_must (refine (callsIn_wide.2 hM.out).mono ?_; rintro e w1 ⟨rfl, hb1⟩; have A1 := A0.below hb1 A0.lt; have B1 := B0.trans (hb1.mono (by simp)); have A2 := A1.alloc (.cells #[.slice none 0 0] 26); have B2 := B1.alloc B1.size (.cells #[.slice none 0 0] 26); have L2 := Arr.new w1 26 #[.slice none 0 0]; have hK := Hid.mk' (known_any ps _ sp n cap os _ (hS.below B2) hn32)))
    | (refine ⟨trivial, ?_⟩; gi_at_call 54; go_must (refine (callsIn_wide.2 hK.out).mono ?_; rintro e W0 ⟨gc, M, T, rfl, hTl, hM0, hMs, hKT, hb0⟩)))
  have hsz0 : w1.heap.size + 1 ≤ W0.heap.size := by have := hb0.size; simpa using this
  have L0 : Arr W0 w1.heap.size 26 #[.slice none 0 0] := L2.below hb0 L2.lt
  have B3 : Below w.heap.size w W0 := B2.trans (hb0.mono B2.size)
  have hw1 : w.heap.size ≤ w1.heap.size := B1.size
  have hnew : ∀ j e, T j e → ∀ b off, e.sp = some ⟨b, off, none⟩ → w1.heap.size + 1 ≤ b := fun j e ht b off q => by have := hKT.new j e ht b off q; simpa using this
  have hMs' : ∀ W W', M W → (∀ b, w1.heap.size + 1 ≤ b → b < W0.heap.size → W'.heap[b]? = W.heap[b]?) → M W' := fun W W' h h' => hMs W W' h (fun b hb => h' b (by simpa using hb))
  clear hMs A2 A1 A0 B0 B1 B2 L2 hK hM hb1 hb0
  have hD1 : w1.heap.size < W0.heap.size := by omega
  have hpos : ∀ j e, T j e → EnOK w.heap.size w e ∨ True := fun _ _ _ => .inr trivial
  clear hpos
  refine range_one 92 #[.pointer (some ⟨gc, 0, none⟩)] W0.heap.size rfl (by rfl) (enters_of Try.func92 (by kernel_rfl) rfl) (knB ps os).length W0.heap.size T M (hTl _ (by omega)) (fun j own W => ∃ v es, KI w w1.heap.size W0.heap.size M T j own v es W) ?_ ?_ (OWN (.slice none 0 0) []) ?_ ?_ ?_
  · rintro j own W ⟨v, es, h⟩
    refine ⟨h.m, fun b hb => ?_⟩
    rw [h.o] at hb
    rcases hb with hb | ⟨e, he, h0, off, q⟩
    · exact own_lt h.eo.own hb
    · exact (h.eo.ap e he b off q).2.1
  · rintro j own W W' ⟨v, es, h⟩ hs
    have hz := h.sz
    have hb := hs.below hz
    exact ⟨v, es, h.bel.trans (hb.mono (by omega)), hMs' W W' h.m (fun b hb1 hb2 => hs.block b (by omega) (.inl hb2)), h.o, (hs.block _ (by omega) (.inl hD1)).trans h.a, h.eo.sam (by rw [← h.o]; exact hs), h.len, h.t, h.r, Nat.le_trans hz hs.size⟩
  · exact ⟨.slice none 0 0, [], B3, hM0, rfl, L0, EO.nil _ _ _, rfl, (fun i e h => by simp at h), (fun b h => by simp [Value.ownBlock] at h), Nat.le_refl _⟩
  · rintro j own W1 e - hjn hsz1 heo hte hqe m
    have he32 := heo.s32
    simp only [List.setIfInBounds_toArray, List.set_cons_zero, List.set_cons_succ]
    gi_wp2_with (refine si77n (by rfl) _ _ (by rfl) W1 W1.heap.size rfl (by rfl) e (by rfl) (by rfl) he32 ?_)
    refine ⟨alloc_bel' W1 _, ?_⟩
    rintro w2 hb2 hk2 hs2 heo2 ⟨v, es, hI⟩
    have hs2' : w2.heap.size = W1.heap.size + 1 := by rw [hs2]; simp
    have A2 : Arr w2 W1.heap.size 71 e.arr := (hk2 _ hsz1).trans (Arr.new W1 71 e.arr)
    have hen : 0 < e.n := by rw [heo2.body.len.out]; exact knB_ne (hKT.bs j e hte)
    have hE3 := hI.eo.below (alloc_bel' w2 (.cells e.arr 71))
    have heo3 := (heo2.below (alloc_bel' w2 (.cells e.arr 71))).mono (show w2.heap.size ≤ (w2.alloc (.cells e.arr 71)).heap.size by simp)
    have hap : ∀ b off, e.sp = some ⟨b, off, none⟩ → w.heap.size ≤ b ∧ b < (w2.alloc (.cells e.arr 71)).heap.size ∧ some b ≠ v.ownBlock ∧ b ≠ w1.heap.size := fun b off q => by
      have n1 := hnew j e hte b off q
      obtain ⟨b', off', q', hb', -⟩ := heo2.body.at0 hen
      rw [q] at q'; cases q'
      refine ⟨by omega, by simp; omega, fun h => ?_, by omega⟩
      rcases hqe b ⟨hen, off, q⟩ with hh | hh
      · have := hI.r b h.symm; omega
      · exact hh (by rw [hI.o]; exact .inl h.symm)
    have c4 := hI.a.cell 0
    have hbase := hI.bel.size
    have hlen := hI.len
    have L3 := hI.a.alloc (.cells e.arr 71)
    have hvl : ∀ k, v.ownBlock = some k → W0.heap.size ≤ k := hI.r
    have hkl' := hkl.out
    replace hlen := Hid.mk' hlen
    simp at c4
    have hel : es.length ≤ 1000 := by rw [hlen.out]; omega
    gi_wp2_with (first
      | (refine li77 (by rfl) _ (by rfl) W1.heap.size 0 (by rfl) e he32 (rangeE A2) ?_)
      | (refine bldEr (by rfl) _ (by rfl) e (by rfl) he32 ?_)
      | (refine appEr (by rfl) (.tmp 12) (.tmp 14) (by rfl) w.heap.size w1.heap.size v es e (by rfl) hE3 w2.heap.size 1 (by rfl) (Arr.new w2 71 _) heo3 hap (by omega) (by simp; omega) ?_; intro v' w6 hE6 hG6 hl6; have L6 := L3.grown hG6 (fun h => (by have := hvl _ h.symm; omega)); have c6 := L6.cell 0; have f6 := L6.frozen 0; obtain ⟨s6, k6, rfl, -⟩ := hE6.es (by simp; omega)))
    simp only [List.length_append, List.length_singleton] at hE6 hl6
    have hv6 : ∀ b, (Value.slice s6 (es.length + 1) k6).ownBlock = some b → W0.heap.size ≤ b := fun b h => by
      have hz := hI.sz
      rcases hl6 with q | q
      · exact hvl b (q.symm.trans h)
      · rw [h] at q; have := Option.some.inj q; simp at this; omega
    have hg6 := hG6.size
    have hsam : Sam 0 (OWN (.slice s6 (es.length + 1) k6) (es ++ [e])) w6 (w6.setCell ⟨w1.heap.size, 0, none⟩ (.slice s6 (es.length + 1) k6)) := ⟨rfl, rfl, rfl, by simp [World.setCell], fun b hb ho => Below.heap_setCell _ _ _ _ (fun q => by
      rcases ho with ho | ho | ⟨f, hf, h0, off, q2⟩
      · omega
      · have hh := hv6 b ho; rw [q] at hh; simp at hh; omega
      · exact (hE6.ap f hf b off q2).2.2.2 q)⟩
    refine ⟨OWN (.slice s6 (es.length + 1) k6) (es ++ [e]), ⟨_, es ++ [e], ⟨?_, ?_, rfl, ?_, hE6.sam hsam, by simp [hlen.out], ?_, hv6, ?_⟩⟩, ?_, ?_, ?_⟩
    · exact ((hI.bel.alloc hbase _).grown hG6 (by simp; omega) (fun k q => own_ge hI.eo.own k q)).setCell (p := ⟨w1.heap.size, 0, none⟩) hw1 _
    · refine hMs' w2 _ hI.m (fun b hb1 hb2' => ?_)
      have hz := hI.sz
      rw [Below.heap_setCell _ _ _ _ (show b ≠ w1.heap.size by omega), hG6.block b (by simp; omega) (fun q => by have := hvl b q.symm; omega)]
      exact (alloc_bel' w2 _).block b (by omega)
    · have := L6.set 0 (.slice s6 (es.length + 1) k6)
      simpa using this
    · intro i f hf
      by_cases hi : i < es.length
      · rw [List.getElem?_append_left hi] at hf; exact hI.t i f hf
      · have hie : i = es.length := by
          have := (List.getElem?_eq_some_iff.1 hf).1
          simp at this; omega
        subst hie
        simp at hf; subst hf
        rw [hlen.out]; exact hte
    · have hz := hI.sz; have : w2.heap.size ≤ w6.heap.size := by simp at hg6; omega
      simp [World.setCell]; omega
    · intro b hb
      rcases hb with hb | ⟨f, hf, hq⟩
      · rcases hl6 with q | q
        · exact .inl (by rw [hI.o]; exact .inl (q.symm.trans hb))
        · rw [hb] at q; have := Option.some.inj q; simp at this; exact .inr (.inl (by omega))
      · rcases List.mem_append.1 hf with hf | hf
        · exact .inl (by rw [hI.o]; exact .inr ⟨f, hf, hq⟩)
        · simp at hf; subst hf; exact .inr (.inr hq)
    · simp [World.setCell]; simp at hg6; omega
    · intro b hb1 hb2' hb3
      rw [Below.heap_setCell _ _ _ _ (show b ≠ w1.heap.size by omega), hG6.block b (by simp; omega) (fun q => hb3 (by rw [hI.o]; exact .inl q.symm))]
      exact (alloc_bel' w2 _).block b (by omega)
  · rintro own W' o ⟨v, es, hI⟩ hoD hsz2 hdf
    have hlen := hI.len
    obtain ⟨s6, k6, rfl, -⟩ := hI.eo.es (by rw [hlen, hkl.out]; omega)
    have hz := hI.sz
    have L7 := hI.a.put o (show w1.heap.size ≠ W0.heap.size + 1 by omega)
    have c7 := L7.cell 0
    simp at c7
    have hs1 : Sam 0 (OWN (.slice s6 es.length k6) es) W' (W'.putObj (W0.heap.size + 1) o) := sam_put (by omega) (by rw [← hI.o]; exact hoD.2) o
    have hs2 : Sam 0 (OWN (.slice s6 es.length k6) es) (W'.putObj (W0.heap.size + 1) o) ((W'.putObj (W0.heap.size + 1) o).putObj W0.heap.size (.deferred none)) := sam_put (by omega) (by rw [← hI.o]; exact hoD.1) _
    have hE8 := hI.eo.sam (hs1.trans hs2)
    have hK8 : (W'.putObj (W0.heap.size + 1) o).heap[W0.heap.size]? = some (.deferred (some [])) := (World.putObj_heap_other (by omega)).trans hdf
    have hB8 : Below w.heap.size w ((W'.putObj (W0.heap.size + 1) o).putObj W0.heap.size (.deferred none)) := below_put (below_put hI.bel (by omega) _) (by omega) _
    obtain ⟨s8, k8, e8', hES⟩ := hE8.es (by rw [hlen, hkl.out]; omega)
    cases e8'
    have hbs8 : Hid (es.map En.bs = knB ps os) := Hid.mk' (by
      apply List.ext_getElem?
      intro i
      by_cases hi : i < es.length
      · have he : es[i]? = some es[i] := List.getElem?_eq_getElem hi
        rw [hKT.bs i es[i] (hI.t i _ he), List.getElem?_map, he]; rfl
      · rw [List.getElem?_eq_none (by simp; omega), List.getElem?_eq_none (by omega)])
    have hsm8 : Hid (∀ e ∈ es, e.sm = shl e.bs) := Hid.mk' (fun e he => by
      obtain ⟨i, hi⟩ := List.mem_iff_getElem?.1 he
      exact hKT.sm i e (hI.t i e hi))
    clear hs1 hs2 hlen
    gi_wp2
    refine ⟨by simp, .inl ⟨_, _, rfl, run_takeDeferred hK8, ?_⟩⟩
    exact ⟨_, results_tmp2 rfl _ _ _, w.heap.size, w1.heap.size, _, es, Nat.le_refl _, by rw [hfin.out.1]; rfl, hE8, Hid.mk' (by rw [hfin.out.2]; exact hbs8.out), hsm8, hB8⟩
theorem known6n_any (ps : List Ac) (N : Nat) (sp : Option Addr) (n cap : Nat) (os : List Ou) (w : World) (hS : SS N w ps sp n cap os) : Calls Try.prog 29 #[.agg (stA ps sp n cap)] w (KnP ps os w) := by
  cases hm : may ps n with
  | true => exact known6n_ok ps N sp n cap os w hS hm
  | false => exact known6n_no ps sp n cap os w hS.a32.out hS.ok.out hS.outs.small hS.outs.len.out hm
end Go.Proofs.Ytbfelelngoonjaa
/- Layer oracle: Get. -/
namespace Go.Proofs.Ytbfelelngoonjaa
open Go.RowKit
set_option maxRecDepth 100000
set_option linter.unusedVariables false
set_option linter.unusedSimpArgs false


/-- What Get answers. -/
def GetP (D : List (List Int × List Int)) (k : List Int) (w : World) (r : Ending) (w' : World) : Prop :=
  ∃ sp n cp L, r = .returned (.tuple #[.slice sp n cp, .bool (gt D k).isSome]) ∧ BS w'.heap.size w' sp n cp L ∧ L = (gt D k).getD [] ∧ Below w.heap.size w w'
theorem oget_nil (k : List Int) (w : World) : Calls Try.prog 12 #[.pointer none, .agg (h8 k)] w fun r w' => r = .returned (.tuple #[.slice none 0 0, .bool false]) ∧ Below w.heap.size w w' := by
  have hb0 := alloc_bel' w (.cells (h8 k) 32)
  go_enter Try.func12, Try.ntmps12
  go_wp2_with (go_at_call 25; go_must (refine (isThere_nil _).mono ?_; rintro e w2 ⟨rfl, h22⟩; replace h22 := h22.symm; subst h22))
  go_ret2
  exact ⟨rfl, hb0⟩
set_option maxHeartbeats 2000000 in
theorem oget_any (base gO gm : Nat) (f : List Int → Value) (v : Value) (es : List En) (k : List Int) (w : World) (hO : Orc base gO gm w f v es) (hk : k.length = 32) (hlen : es.length ≤ 1000000000) :
    Calls Try.prog 12 #[.pointer (some ⟨gO, 0, none⟩), .agg (h8 k)] w (GetP (dats es) k w) := by
  have B0 := alloc_bel' w (.cells (h8 k) 32)
  have A0 := Arr.new w 32 (h8 k)
  have O0 := OrX.bel hO B0
  have c0 := O0.A.cell 0
  simp at c0
  obtain ⟨sv, cv, rfl, -⟩ := hO.E.es (by omega)
  obtain ⟨sp, cap, hfk, hn, hsn, -⟩ := rowI_at (hO.P k)
  obtain ⟨ne, hne⟩ : ∃ ne, ne = es.length := ⟨_, rfl⟩
  rw [← hne] at hlen O0
  replace hne := hid hne
  clear hO
  cases hp : pl es k with
  | nil =>
    rw [hp] at hfk
    have hg : Hid (gt (dats es) k = none) := hid (by
      rw [gt_of, Option.map_eq_none_iff, List.find?_eq_none]
      intro x hx
      simpa using pl_nil hp x hx)
    clear hp hn hsn
    go_enter Try.func12, Try.ntmps12
    go_upto_region 3 with (go_at_call 25; go_must (refine (isThere_any gO gm _ c0).mono ?_; rintro e w2 ⟨rfl, h22⟩; replace h22 := h22.symm; subst h22))
    generalize w.alloc (.cells (h8 k) 32) = W at *
    refine rgn (fun u => Arr u w.heap.size 32 (h8 k) ∧ Arr u gO 68 #[.map (some gm), .slice sv ne cv] ∧ PM u gm f) ⟨A0.drew, O0.A.drew, O0.M.same rfl⟩ (fun hS => ?_)
    refine tk 0 rfl ?_
    refine tk 1 rfl ?_
    refine tk 2 rfl ?_
    refine tl 3 rfl (yL66 (by rfl) (.tmp 12) rfl gO 0 rfl (some gm) (fun u hu => by simpa using hu.2.1.cell 0)) ?_
    refine tl 4 rfl (y24 (by rfl) (.tmp 3) rfl w.heap.size 0 rfl k hk (fun u hu => hu.1.range)) ?_
    refine tl 5 rfl (yLook (by rfl) (.tmp 13) (.tmp 14) rfl gm rfl k hk rfl f _ hfk (fun u hu => hu.2.2)) ?_
    refine rd 6 rfl (fun K hK => ?_)
    go_simp
    go_wp2_with fail
    refine ko hK hS (fun hS => ?_)
    refine dn ?_
    go_wp2_with fail
    go_ret2
    exact ⟨none, 0, 0, [], by rw [hg.out]; rfl, BS.nil0 _ _, by rw [hg.out]; rfl, B0.drew⟩
  | cons p r =>
    obtain ⟨n, hnn⟩ : ∃ n, n = r.length := ⟨_, rfl⟩
    rw [hp, List.length_cons, ← hnn] at hfk
    obtain ⟨q, hq, hfi⟩ := pl_first hp
    have hg : Hid (gt (dats es) k = some q.bs) := hid (by rw [gt_of, hfi]; rfl)
    obtain ⟨sp', cap', hf', -, -, hcell⟩ := rowI_at (O0.P k)
    rw [hfk] at hf'
    obtain ⟨g, hgs, cp⟩ := hcell 0 p (by rw [hp]; rfl)
    have hsp : sp = some ⟨g, 0, none⟩ := by injection hf' with h1 h2 h3; rw [h1]; exact hgs
    subst hsp
    have hpn := (List.getElem?_eq_some_iff.1 hq).1
    rw [← hne.out] at hpn
    have hpI : (p : Int) < ne := by omega
    have hp0 : (0 : Int) ≤ p := by omega
    have hnI : (0 : Int) < (n + 1 : Nat) := by omega
    have hnz : (((n + 1 : Nat) : Int) == 0) = false := by simp; omega
    obtain ⟨sv', cv', hv', hES⟩ := O0.E.es (by rw [← hne.out]; omega)
    obtain ⟨gv, ov, hgv, -, hR⟩ := hES.at0 (by rw [← hne.out]; omega)
    have hsv : sv = some ⟨gv, ov, none⟩ := by cases hv'; exact hgv
    subst hsv
    have hRq := hR p q hq
    have hok := (O0.E.ok q (List.mem_of_getElem? hq))
    have hBt := hok.body.bts
    have hns := hok.body.small
    clear hcell hES hR hv' hf' hgs hgv hp hn hsn hfi hq hnn
    go_enter Try.func12, Try.ntmps12
    go_upto_region 3 with (go_at_call 25; go_must (refine (isThere_any gO gm _ c0).mono ?_; rintro e w2 ⟨rfl, h22⟩; replace h22 := h22.symm; subst h22))
    generalize w.alloc (.cells (h8 k) 32) = W at *
    refine rgn (fun u => Arr u w.heap.size 32 (h8 k) ∧ Arr u gO 68 #[.map (some gm), .slice (some ⟨gv, ov, none⟩) ne cv] ∧ PM u gm f) ⟨A0.drew, O0.A.drew, O0.M.same rfl⟩ (fun hS => ?_)
    refine tk 0 rfl ?_
    refine tk 1 rfl ?_
    refine tk 2 rfl ?_
    refine tl 3 rfl (yL66 (by rfl) (.tmp 12) rfl gO 0 rfl (some gm) (fun u hu => by simpa using hu.2.1.cell 0)) ?_
    refine tl 4 rfl (y24 (by rfl) (.tmp 3) rfl w.heap.size 0 rfl k hk (fun u hu => hu.1.range)) ?_
    refine tl 5 rfl (yLook (by rfl) (.tmp 13) (.tmp 14) rfl gm rfl k hk rfl f _ hfk (fun u hu => hu.2.2)) ?_
    refine rd 6 rfl (fun K hK => ?_)
    go_simp
    go_wp2_with fail
    refine ko hK hS (fun hS => ?_)
    refine dn ?_
    clear hS
    have B1 := B0.drew
    have O1 := OrX.bel O0 (Below.refl _ _).drew
    have cp1 : W.drew.cell? ⟨g, 0, none⟩ = some (.int .i64 (p : Int)) := cp
    have hRq1 : W.drew.rangeAt gv (ov + p * 33) q.cells := hRq
    have hok1 := hok.below ((Below.refl W.heap.size W).drew)
    generalize W.drew = U at *
    clear hRq cp O0 B0 hok A0 c0
    go_upto_region 6 with fail
    refine rgn (fun u => Arr u gO 68 #[.map (some gm), .slice (some ⟨gv, ov, none⟩) ne cv] ∧ u.rangeAt gv (ov + p * 33) q.cells ∧ u.cell? ⟨g, 0, none⟩ = some (.int .i64 (p : Int))) ⟨O1.A.drew, hRq1, cp1⟩ (fun hS => ?_)
    refine tk 0 rfl ?_
    refine tk 1 rfl ?_
    refine tk 2 rfl ?_
    refine tl 3 rfl (yL26 (by rfl) (.tmp 21) rfl gO 1 rfl _ _ _ (fun u hu => by simpa using hu.1.cell 1)) ?_
    refine tk 4 rfl ?_
    refine tk 5 rfl ?_
    refine tl 6 rfl (yL3 (by rfl) (.tmp 24) rfl g 0 rfl _ (fun u hu => hu.2.2)) ?_
    refine tk 7 rfl ?_
    refine tk 8 rfl ?_
    refine tl 9 rfl (y5c (by rfl) (.tmp 27) rfl gv (ov + p * 33) rfl q (fun u hu => hu.2.1)) ?_
    refine rd 10 rfl (fun K hK => ?_)
    go_simp
    refine (clone_any q.sp q.n q.cap q.bs _ U.drew (hok1.body.below (Below.refl _ _).drew)).mono ?_
    rintro r w4 ⟨vb, rfl, hown4, hb4⟩
    have U4 : Below U.heap.size U w4 := ((Below.refl _ _).drew).trans (hb4.mono (by simp))
    obtain ⟨sp4, cp4, rfl, hB4, hg4⟩ := own_bs hown4 hBt hns
    go_wp2_with fail
    refine ko hK ⟨O1.A.below U4 O1.A.lt, fun j u hj => by rw [← hRq1 j u hj]; exact World.cell?_of_block (U4.block gv (block_lt_of_cell (hRq1 j u hj))), by rw [← cp1]; exact World.cell?_of_block (U4.block g (block_lt_of_cell cp1))⟩ (fun hS => ?_)
    refine rd 11 rfl (fun K hK => ?_)
    go_simp
    go_wp2_with fail
    refine ko hK hS (fun hS => ?_)
    refine rd 12 rfl (fun K hK => ?_)
    go_simp
    go_wp2_with fail
    refine ko hK hS (fun hS => ?_)
    refine dn ?_
    go_wp2_with fail
    go_ret2
    exact ⟨sp4, q.n, cp4, q.bs, by rw [hg.out]; rfl, hB4, by rw [hg.out]; rfl, B1.trans (U4.mono B1.size)⟩
end Go.Proofs.Ytbfelelngoonjaa
