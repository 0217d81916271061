/- Layer oracle: what the layers below give. -/
import Derived.Test.YtbfelelngoonjaaX01
import Derived.Test.YtbfelelngoonjaaX02
import Derived.Test.YtbfelelngoonjaaX03
import Derived.Test.YtbfelelngoonjaaX04
import Derived.Test.YtbfelelngoonjaaX05
import Derived.Test.YtbfelelngoonjaaX17
import Derived.Test.YtbfelelngoonjaaX06
import Derived.Test.YtbfelelngoonjaaX12
import Derived.Test.YtbfelelngoonjaaX13
import Derived.Test.YtbfelelngoonjaaX14
import Derived.Test.YtbfelelngoonjaaX16
import Derived.Test.YtbfelelngoonjaaX18
import Derived.Test.YtbfelelngoonjaaX23
import Derived.Test.YtbfelelngoonjaaX28
import Derived.Test.YtbfelelngoonjaaX19
import Derived.Test.YtbfelelngoonjaaX21
import Derived.Test.YtbfelelngoonjaaX31
import Derived.BigQuiet
import Derived.BigRegion
import Derived.ChangeKeysEq
import Derived.Deep.DeepCutAuto
import Derived.Deep.DrawnRows
import Derived.Deep.MidRow
import Derived.Deep.QuietTactic
import Derived.Deep.RegionHeld3
import Derived.Deep.RegionLaw
import Derived.Deep.RegionWith
import Derived.Deep.WholeRow
import Derived.Great.BuildSlice
import Derived.Great.FillDense
import Derived.Laws.AppendOwnNone
import Derived.Laws.BitsLemmas
import Derived.Laws.BytesArg
import Derived.Laws.CopyOwn
import Derived.Laws.CopyRow
import Derived.Laws.MakeOwn
import Derived.Laws.OwnMore
import Derived.Laws.Tables
import Derived.Lib.SlBytesConst
import Derived.LoopIn
import Derived.LoopNIn
import Derived.Maps.AppendAt
import Derived.OwnWalkIn
import Derived.RangeFuncBound
import Derived.RangeFuncCalls
import Derived.RangeFuncLeaves
import Derived.RangeFuncNested
import Derived.RangeFuncRecord
import Derived.Shelf.Abstract
import Derived.Shelf.RegionOpen
import Derived.TacticsInMore
import Derived.WalkKit
import Derived.WalkLawsBesides
import Derived.WalkSpells
namespace Go.Proofs.Ytbfelelngoonjaa
open Go.RowKit Go.Shelf
set_option maxRecDepth 100000
set_option linter.unusedVariables false
set_option linter.unusedSimpArgs false
attribute [local go_sem] Oper.semAt_some

/-- What Known answers. -/
def KPost (ps : List Ac) (os : List Ou) (w : World) (r : Ending) (w' : World) : Prop :=
  ∃ sp n cap es, r = .returned (.tuple #[.slice sp n cap, .int .i64 (rtE ps os)]) ∧ ES w'.heap.size w' sp n cap es ∧ Hid (es.map En.bs = if may ps os.length = true then knB ps os else []) ∧ Hid (∀ e ∈ es, e.sm = shl e.bs) ∧ Below w.heap.size w w'
theorem ld30w {m : Nat} {ops : Array Oper} {rest : List Oper} {o : Oper} {a : Act} {w : World} {Q : Exit → Act → World → Prop} (hgd : o.guard = none) (x : Operand) (ho : o.op = .load 38 x)
    (g ty : Nat) (hx : a.eval x = .pointer (some ⟨g, 0, none⟩)) (ps : List Ac) (sp : Option Addr) (n cap : Nat) (h1 : ps.length = 32) (h2 : ∀ a ∈ ps, a.lk.length = 32) (hA : Arr w g ty (stA ps sp n cap))
    (h : wpListIn Fence.wide m Try.prog ops Q rest (a.put o.dst (.agg (stA ps sp n cap))) w) : wpListIn Fence.wide m Try.prog ops Q (o :: rest) a w :=
  wpListIn_plain hgd fun _ hK => opInw (by rw [ho]; intro c hc; cases hc) (wp_load_mid 38 x ho g 0 hx (stC ps sp n cap) _ hA.st Try.underlying38 rfl (by rw [stC_len h1 h2]; exact size30) (hK _ _ h))
theorem bldEr {l m : Nat} {ops : Array Oper} {rest : List Oper} {o : Oper} {a : Act} {w : World} {Q : Exit → Act → World → Prop} (hgd : o.guard = none) (x : Operand) (ho : o.op = .buildSlice 26 1 #[(0, x)]) (e : En) (hx : a.eval x = .agg e.arr) (he : e.sm.length = 32)
    (h : wpListIn (Fence.wide.inRound l) m Try.prog ops Q rest (a.put o.dst (.slice (some ⟨w.heap.size, 0, none⟩) 1 1)) (w.alloc (.cells e.arr 71))) : wpListIn (Fence.wide.inRound l) m Try.prog ops Q (o :: rest) a w :=
  wpListIn_plain hgd fun _ hK => opIn (by rw [ho]; intro c hc; cases hc) (wp_bldE x ho e hx he (hK _ _ h))
theorem appEr {l m : Nat} {ops : Array Oper} {rest : List Oper} {o : Oper} {a : Act} {w : World} {Q : Exit → Act → World → Prop} (hgd : o.guard = none) (s x : Operand) (ho : o.op = .call { callee := .builtin .append, args := #[s, x], argTypes := #[26, 26] })
    (base ax : Nat) (v : Value) (es : List En) (e : En) (hs : a.eval s = v) (hE : EO base ax w v es) (gx c : Nat) (hx : a.eval x = .slice (some ⟨gx, 0, none⟩) 1 c) (hA : Arr w gx 71 e.arr) (he : EnOK w.heap.size w e)
    (hap : ∀ b off, e.sp = some ⟨b, off, none⟩ → base ≤ b ∧ b < w.heap.size ∧ some b ≠ v.ownBlock ∧ b ≠ ax) (hk : es.length ≤ 1000000000) (hbase : base ≤ w.heap.size)
    (h : ∀ v' w', EO base ax w' v' (es ++ [e]) → w.grownBy w' v.ownBlock → (v'.ownBlock = v.ownBlock ∨ v'.ownBlock = some w.heap.size) → wpListIn (Fence.wide.inRound l) m Try.prog ops Q rest (a.put o.dst v') w') : wpListIn (Fence.wide.inRound l) m Try.prog ops Q (o :: rest) a w :=
  wpListIn_plain hgd fun _ hK => opIn (by rw [ho]; intro c hc; cases hc) (wp_appE s x ho base ax v es e hs hE gx c hx hA he hap hk hbase fun v' w' h1 h2 h3 => hK _ _ (h v' w' h1 h2 h3))
set_option maxHeartbeats 1000000 in
theorem known6_no (ps : List Ac) (sp : Option Addr) (n cap : Nat) (os : List Ou) (w : World) (h1 : ps.length = 32) (hok : ∀ a ∈ ps, AcOK a) (hn : n ≤ 140737488355328) (hl : n = os.length) (hm : may ps n = false) :
    Calls Try.prog 29 #[.agg (stA ps sp n cap)] w (KPost ps os w) := by
  have h2 : ∀ a ∈ ps, a.lk.length = 32 := fun a ha => (hok a ha).l32
  have A0 := Arr.new w 38 (stA ps sp n cap)
  have B0 := alloc_bel' w (.cells (stA ps sp n cap) 38)
  have hM := may_any ps sp n cap (w.alloc (.cells (stA ps sp n cap) 38)) h1 hok hn
  rw [hm] at hM
  have hfin : Hid (rtE ps os = 2 ∧ (if may ps os.length = true then knB ps os else []) = []) := Hid.mk' (by unfold rtE; rw [← hl, hm]; exact ⟨rfl, rfl⟩)
  clear hl
  replace hM := Hid.mk' hM
  refine (callsIn_wide (n := 3)).1 ?_
  refine callsIn_of_wp_marks Try.func29 rfl trivial ?_ rfl
  simp only [Try.ntmps29, List.size_toArray, List.length_cons, List.length_nil, Nat.reduceAdd, Nat.reduceSub, Array.replicate_succ, Array.replicate_zero, List.push_toArray, List.append_toArray, List.nil_append, List.cons_append]
  gi_wp2_with (first
    | (refine ld30w (by rfl) _ (by rfl) w.heap.size 38 (by rfl) ps sp n cap h1 h2 A0 ?_)
    | (refine ⟨trivial, ?_⟩; gi_at_call 53; go_must (refine (callsIn_wide.2 hM.out).mono ?_; rintro e w1 ⟨rfl, hb1⟩)))
  exact ⟨_, results_tmp2 rfl _ _ _, none, 0, 0, [], by rw [hfin.out.1]; rfl, ES.nil0 _ _, Hid.mk' (by rw [hfin.out.2]; rfl), Hid.mk' (fun e he => by cases he), B0.trans (hb1.mono (by simp))⟩
/-- What the list owns. -/
def OWN (v : Value) (es : List En) (b : Nat) : Prop := v.ownBlock = some b ∨ ∃ e ∈ es, EB e b
theorem EO.sam {base ax D : Nat} {W W' : World} {v : Value} {es : List En} (h : EO base ax W v es) (hs : Sam D (OWN v es) W W') : EO base ax W' v es := by
  have hz := hs.size
  refine ⟨own_same h.own (fun k hk => hs.block k (own_lt h.own hk) (.inr (.inl hk))), fun e he => ⟨⟨(h.ok e he).body.len, (h.ok e he).body.nil, (h.ok e he).body.le, (h.ok e he).body.big, (h.ok e he).body.small, fun h0 => ?_, (h.ok e he).body.bts⟩, (h.ok e he).s32⟩, fun e he b off q => ?_⟩
  · obtain ⟨b, off, q, hb, hB⟩ := (h.ok e he).body.at0 h0
    exact ⟨b, off, q, by omega, fun u hu => (World.cell?_of_block (w := W) (a := ⟨b, off + u, none⟩) (hs.block b hb (.inr (.inr ⟨e, he, h0, off, q⟩)))).trans (hB u hu)⟩
  · obtain ⟨a1, a2, a3⟩ := h.ap e he b off q
    exact ⟨a1, by omega, a3⟩
theorem knB_ne {ps : List Ac} {os : List Ou} {j : Nat} {x : List Int} (h : (knB ps os)[j]? = some x) : 0 < x.length := by
  have hx := List.mem_of_getElem? h
  have hl : ∀ (d : Nat) (l : List (List Int)), ∀ y ∈ prs d l, 0 < y.length := by
    intro d
    induction d with
    | zero => intro l y hy; cases hy
    | succ d ih =>
      intro l y hy
      rcases List.mem_append.1 hy with hy | hy
      · have key : ∀ (m : Nat) (l : List (List Int)), l.length ≤ m → ∀ y ∈ lvl l, 0 < y.length := by
          intro m
          induction m with
          | zero =>
            intro l hm y hy
            have : l = [] := List.eq_nil_of_length_eq_zero (by omega)
            subst this; cases hy
          | succ m ihm =>
            intro l hm y hy
            match l, hm, hy with
            | a :: b :: r, hm, hy =>
              simp only [lvl, List.mem_cons] at hy
              rcases hy with rfl | hy
              · simp
              · exact ihm r (by simp at hm; omega) y hy
        exact key _ l (Nat.le_refl _) y hy
      · exact ih _ y hy
  unfold knB at hx
  simp only [List.mem_append, List.mem_map, List.mem_cons, List.mem_nil_iff, or_false] at hx
  rcases hx with (((⟨a, -, rfl⟩ | ⟨a, -, rfl⟩) | h) | h) | (rfl | rfl)
  · simp
  · simp
  · exact hl _ _ x h
  · exact hl _ _ x h
  · simp
  · simp
/-- What the loop in Known keeps. -/
structure KI (w : World) (gl D : Nat) (M : World → Prop) (T : Nat → En → Prop) (j : Nat) (own : Nat → Prop) (v : Value) (es : List En) (W : World) : Prop where
  bel : Below w.heap.size w W
  m : M W
  o : own = OWN v es
  a : Arr W gl 26 #[v]
  eo : EO w.heap.size gl W v es
  len : es.length = j
  t : ∀ i e, es[i]? = some e → T i e
  r : ∀ b, v.ownBlock = some b → D ≤ b
  sz : D ≤ W.heap.size
set_option maxHeartbeats 4000000 in
theorem known6_ok (ps : List Ac) (N : Nat) (sp : Option Addr) (n cap : Nat) (os : List Ou) (w : World) (hS : SS N w ps sp n cap os) (hm : may ps n = true) :
    Calls Try.prog 29 #[.agg (stA ps sp n cap)] w (KPost ps os w) := by
  have h1 := hS.a32.out
  have h2 := hS.l32
  have hok := hS.ok.out
  have hn32 := may_le hm
  have hnl := hS.outs.len
  have hS := hS.here
  have A0 := Arr.new w 38 (stA ps sp n cap)
  have B0 := alloc_bel' w (.cells (stA ps sp n cap) 38)
  have hM := may_any ps sp n cap (w.alloc (.cells (stA ps sp n cap) 38)) h1 hok (by omega)
  rw [hm] at hM
  have hfin : Hid (rtE ps os = 0 ∧ (if may ps os.length = true then knB ps os else []) = knB ps os) := Hid.mk' (by unfold rtE; rw [← hnl.out, hm]; exact ⟨rfl, rfl⟩)
  have hkl : Hid ((knB ps os).length = 96 + n) := Hid.mk' (by rw [knB_len h1 (by rw [← hnl.out]; exact hn32), hnl.out])
  replace hM := Hid.mk' hM
  refine (callsIn_wide (n := 3)).1 ?_
  refine callsIn_of_wp_marks Try.func29 rfl trivial ?_ rfl
  simp only [Try.ntmps29, List.size_toArray, List.length_cons, List.length_nil, Nat.reduceAdd, Nat.reduceSub, Array.replicate_succ, Array.replicate_zero, List.push_toArray, List.append_toArray, List.nil_append, List.cons_append]
  gi_wp2_with (first
    | (refine ld30w (by rfl) _ (by rfl) w.heap.size 38 (by rfl) ps sp n cap h1 h2 A2 ?_)
    | (refine ld30w (by rfl) _ (by rfl) w.heap.size 38 (by rfl) ps sp n cap h1 h2 A0 ?_)
    | (refine ⟨trivial, ?_⟩; gi_at_call 53; go_must (refine (callsIn_wide.2 hM.out).mono ?_; rintro e w1 ⟨rfl, hb1⟩; have A1 := A0.below hb1 A0.lt; have B1 := B0.trans (hb1.mono (by simp)); have A2 := A1.alloc (.cells #[.slice none 0 0] 26); have B2 := B1.alloc B1.size (.cells #[.slice none 0 0] 26); have L2 := Arr.new w1 26 #[.slice none 0 0]; have hK := Hid.mk' (known_any ps _ sp n cap os _ (hS.below B2) hn32)))
    | (refine ⟨trivial, ?_⟩; gi_at_call 54; go_must (refine (callsIn_wide.2 hK.out).mono ?_; rintro e W0 ⟨gc, M, T, rfl, hTl, hM0, hMs, hKT, hb0⟩)))
  have hsz0 : w1.heap.size + 1 ≤ W0.heap.size := by have := hb0.size; simpa using this
  have L0 : Arr W0 w1.heap.size 26 #[.slice none 0 0] := L2.below hb0 L2.lt
  have B3 : Below w.heap.size w W0 := B2.trans (hb0.mono B2.size)
  have hw1 : w.heap.size ≤ w1.heap.size := B1.size
  have hnew : ∀ j e, T j e → ∀ b off, e.sp = some ⟨b, off, none⟩ → w1.heap.size + 1 ≤ b := fun j e ht b off q => by have := hKT.new j e ht b off q; simpa using this
  have hMs' : ∀ W W', M W → (∀ b, w1.heap.size + 1 ≤ b → b < W0.heap.size → W'.heap[b]? = W.heap[b]?) → M W' := fun W W' h h' => hMs W W' h (fun b hb => h' b (by simpa using hb))
  clear hMs A2 A1 A0 B0 B1 B2 L2 hK hM hb1 hb0
  have hD1 : w1.heap.size < W0.heap.size := by omega
  have hpos : ∀ j e, T j e → EnOK w.heap.size w e ∨ True := fun _ _ _ => .inr trivial
  clear hpos
  refine range_one 92 #[.pointer (some ⟨gc, 0, none⟩)] W0.heap.size rfl (by rfl) (enters_of Try.func92 (by kernel_rfl) rfl) (knB ps os).length W0.heap.size T M (hTl _ (by omega)) (fun j own W => ∃ v es, KI w w1.heap.size W0.heap.size M T j own v es W) ?_ ?_ (OWN (.slice none 0 0) []) ?_ ?_ ?_
  · rintro j own W ⟨v, es, h⟩
    refine ⟨h.m, fun b hb => ?_⟩
    rw [h.o] at hb
    rcases hb with hb | ⟨e, he, h0, off, q⟩
    · exact own_lt h.eo.own hb
    · exact (h.eo.ap e he b off q).2.1
  · rintro j own W W' ⟨v, es, h⟩ hs
    have hz := h.sz
    have hb := hs.below hz
    exact ⟨v, es, h.bel.trans (hb.mono (by omega)), hMs' W W' h.m (fun b hb1 hb2 => hs.block b (by omega) (.inl hb2)), h.o, (hs.block _ (by omega) (.inl hD1)).trans h.a, h.eo.sam (by rw [← h.o]; exact hs), h.len, h.t, h.r, Nat.le_trans hz hs.size⟩
  · exact ⟨.slice none 0 0, [], B3, hM0, rfl, L0, EO.nil _ _ _, rfl, (fun i e h => by simp at h), (fun b h => by simp [Value.ownBlock] at h), Nat.le_refl _⟩
  · rintro j own W1 e - hjn hsz1 heo hte hqe m
    have he32 := heo.s32
    simp only [List.setIfInBounds_toArray, List.set_cons_zero, List.set_cons_succ]
    gi_wp2_with (refine si77n (by rfl) _ _ (by rfl) W1 W1.heap.size rfl (by rfl) e (by rfl) (by rfl) he32 ?_)
    refine ⟨alloc_bel' W1 _, ?_⟩
    rintro w2 hb2 hk2 hs2 heo2 ⟨v, es, hI⟩
    have hs2' : w2.heap.size = W1.heap.size + 1 := by rw [hs2]; simp
    have A2 : Arr w2 W1.heap.size 71 e.arr := (hk2 _ hsz1).trans (Arr.new W1 71 e.arr)
    have hen : 0 < e.n := by rw [heo2.body.len.out]; exact knB_ne (hKT.bs j e hte)
    have hE3 := hI.eo.below (alloc_bel' w2 (.cells e.arr 71))
    have heo3 := (heo2.below (alloc_bel' w2 (.cells e.arr 71))).mono (show w2.heap.size ≤ (w2.alloc (.cells e.arr 71)).heap.size by simp)
    have hap : ∀ b off, e.sp = some ⟨b, off, none⟩ → w.heap.size ≤ b ∧ b < (w2.alloc (.cells e.arr 71)).heap.size ∧ some b ≠ v.ownBlock ∧ b ≠ w1.heap.size := fun b off q => by
      have n1 := hnew j e hte b off q
      obtain ⟨b', off', q', hb', -⟩ := heo2.body.at0 hen
      rw [q] at q'; cases q'
      refine ⟨by omega, by simp; omega, fun h => ?_, by omega⟩
      rcases hqe b ⟨hen, off, q⟩ with hh | hh
      · have := hI.r b h.symm; omega
      · exact hh (by rw [hI.o]; exact .inl h.symm)
    have c4 := hI.a.cell 0
    have hbase := hI.bel.size
    have hlen := hI.len
    have L3 := hI.a.alloc (.cells e.arr 71)
    have hvl : ∀ k, v.ownBlock = some k → W0.heap.size ≤ k := hI.r
    have hkl' := hkl.out
    replace hlen := Hid.mk' hlen
    simp at c4
    have hel : es.length ≤ 1000 := by rw [hlen.out]; omega
    gi_wp2_with (first
      | (refine li77 (by rfl) _ (by rfl) W1.heap.size 0 (by rfl) e he32 (rangeE A2) ?_)
      | (refine bldEr (by rfl) _ (by rfl) e (by rfl) he32 ?_)
      | (refine appEr (by rfl) (.tmp 12) (.tmp 14) (by rfl) w.heap.size w1.heap.size v es e (by rfl) hE3 w2.heap.size 1 (by rfl) (Arr.new w2 71 _) heo3 hap (by omega) (by simp; omega) ?_; intro v' w6 hE6 hG6 hl6; have L6 := L3.grown hG6 (fun h => (by have := hvl _ h.symm; omega)); have c6 := L6.cell 0; have f6 := L6.frozen 0; obtain ⟨s6, k6, rfl, -⟩ := hE6.es (by simp; omega)))
    simp only [List.length_append, List.length_singleton] at hE6 hl6
    have hv6 : ∀ b, (Value.slice s6 (es.length + 1) k6).ownBlock = some b → W0.heap.size ≤ b := fun b h => by
      have hz := hI.sz
      rcases hl6 with q | q
      · exact hvl b (q.symm.trans h)
      · rw [h] at q; have := Option.some.inj q; simp at this; omega
    have hg6 := hG6.size
    have hsam : Sam 0 (OWN (.slice s6 (es.length + 1) k6) (es ++ [e])) w6 (w6.setCell ⟨w1.heap.size, 0, none⟩ (.slice s6 (es.length + 1) k6)) := ⟨rfl, rfl, rfl, by simp [World.setCell], fun b hb ho => Below.heap_setCell _ _ _ _ (fun q => by
      rcases ho with ho | ho | ⟨f, hf, h0, off, q2⟩
      · omega
      · have hh := hv6 b ho; rw [q] at hh; simp at hh; omega
      · exact (hE6.ap f hf b off q2).2.2.2 q)⟩
    refine ⟨OWN (.slice s6 (es.length + 1) k6) (es ++ [e]), ⟨_, es ++ [e], ⟨?_, ?_, rfl, ?_, hE6.sam hsam, by simp [hlen.out], ?_, hv6, ?_⟩⟩, ?_, ?_, ?_⟩
    · exact ((hI.bel.alloc hbase _).grown hG6 (by simp; omega) (fun k q => own_ge hI.eo.own k q)).setCell (p := ⟨w1.heap.size, 0, none⟩) hw1 _
    · refine hMs' w2 _ hI.m (fun b hb1 hb2' => ?_)
      have hz := hI.sz
      rw [Below.heap_setCell _ _ _ _ (show b ≠ w1.heap.size by omega), hG6.block b (by simp; omega) (fun q => by have := hvl b q.symm; omega)]
      exact (alloc_bel' w2 _).block b (by omega)
    · have := L6.set 0 (.slice s6 (es.length + 1) k6)
      simpa using this
    · intro i f hf
      by_cases hi : i < es.length
      · rw [List.getElem?_append_left hi] at hf; exact hI.t i f hf
      · have hie : i = es.length := by
          have := (List.getElem?_eq_some_iff.1 hf).1
          simp at this; omega
        subst hie
        simp at hf; subst hf
        rw [hlen.out]; exact hte
    · have hz := hI.sz; have : w2.heap.size ≤ w6.heap.size := by simp at hg6; omega
      simp [World.setCell]; omega
    · intro b hb
      rcases hb with hb | ⟨f, hf, hq⟩
      · rcases hl6 with q | q
        · exact .inl (by rw [hI.o]; exact .inl (q.symm.trans hb))
        · rw [hb] at q; have := Option.some.inj q; simp at this; exact .inr (.inl (by omega))
      · rcases List.mem_append.1 hf with hf | hf
        · exact .inl (by rw [hI.o]; exact .inr ⟨f, hf, hq⟩)
        · simp at hf; subst hf; exact .inr (.inr hq)
    · simp [World.setCell]; simp at hg6; omega
    · intro b hb1 hb2' hb3
      rw [Below.heap_setCell _ _ _ _ (show b ≠ w1.heap.size by omega), hG6.block b (by simp; omega) (fun q => hb3 (by rw [hI.o]; exact .inl q.symm))]
      exact (alloc_bel' w2 _).block b (by omega)
  · rintro own W' o ⟨v, es, hI⟩ hoD hsz2 hdf
    have hlen := hI.len
    obtain ⟨s6, k6, rfl, -⟩ := hI.eo.es (by rw [hlen, hkl.out]; omega)
    have hz := hI.sz
    have L7 := hI.a.put o (show w1.heap.size ≠ W0.heap.size + 1 by omega)
    have c7 := L7.cell 0
    simp at c7
    have hs1 : Sam 0 (OWN (.slice s6 es.length k6) es) W' (W'.putObj (W0.heap.size + 1) o) := sam_put (by omega) (by rw [← hI.o]; exact hoD.2) o
    have hs2 : Sam 0 (OWN (.slice s6 es.length k6) es) (W'.putObj (W0.heap.size + 1) o) ((W'.putObj (W0.heap.size + 1) o).putObj W0.heap.size (.deferred none)) := sam_put (by omega) (by rw [← hI.o]; exact hoD.1) _
    have hE8 := hI.eo.sam (hs1.trans hs2)
    have hK8 : (W'.putObj (W0.heap.size + 1) o).heap[W0.heap.size]? = some (.deferred (some [])) := (World.putObj_heap_other (by omega)).trans hdf
    have hB8 : Below w.heap.size w ((W'.putObj (W0.heap.size + 1) o).putObj W0.heap.size (.deferred none)) := below_put (below_put hI.bel (by omega) _) (by omega) _
    obtain ⟨s8, k8, e8', hES⟩ := hE8.es (by rw [hlen, hkl.out]; omega)
    cases e8'
    have hbs8 : Hid (es.map En.bs = knB ps os) := Hid.mk' (by
      apply List.ext_getElem?
      intro i
      by_cases hi : i < es.length
      · have he : es[i]? = some es[i] := List.getElem?_eq_getElem hi
        rw [hKT.bs i es[i] (hI.t i _ he), List.getElem?_map, he]; rfl
      · rw [List.getElem?_eq_none (by simp; omega), List.getElem?_eq_none (by omega)])
    have hsm8 : Hid (∀ e ∈ es, e.sm = shl e.bs) := Hid.mk' (fun e he => by
      obtain ⟨i, hi⟩ := List.mem_iff_getElem?.1 he
      exact hKT.sm i e (hI.t i e hi))
    clear hE8 hs1 hs2 hlen
    gi_wp2
    refine ⟨by simp, .inl ⟨_, _, rfl, run_takeDeferred hK8, ?_⟩⟩
    exact ⟨_, results_tmp2 rfl _ _ _, s6, es.length, k6, es, by rw [hfin.out.1]; rfl, hES, Hid.mk' (by rw [hfin.out.2]; exact hbs8.out), hsm8, hB8⟩
theorem known6_any (ps : List Ac) (N : Nat) (sp : Option Addr) (n cap : Nat) (os : List Ou) (w : World) (hS : SS N w ps sp n cap os) : Calls Try.prog 29 #[.agg (stA ps sp n cap)] w (KPost ps os w) := by
  cases hm : may ps n with
  | true => exact known6_ok ps N sp n cap os w hS hm
  | false => exact known6_no ps sp n cap os w hS.a32.out hS.ok.out hS.outs.small hS.outs.len.out hm
end Go.Proofs.Ytbfelelngoonjaa
