/- Pl, Ci. -/
import Derived.Test.YtbfelelngoonjaaX01
import Derived.Test.YtbfelelngoonjaaX02
import Derived.Test.YtbfelelngoonjaaX04
import Derived.Test.YtbfelelngoonjaaX05
import Derived.Test.YtbfelelngoonjaaX17
import Derived.Test.YtbfelelngoonjaaX06
import Derived.Test.YtbfelelngoonjaaX12
import Derived.Test.YtbfelelngoonjaaX13
import Derived.Test.YtbfelelngoonjaaX14
import Derived.Test.YtbfelelngoonjaaX16
import Derived.Test.YtbfelelngoonjaaX18
import Derived.BigQuiet
import Derived.BigRegion
import Derived.ChangeKeysEq
import Derived.Deep.DeepCutAuto
import Derived.Deep.DrawnRows
import Derived.Deep.MidRow
import Derived.Deep.QuietTactic
import Derived.Deep.RegionHeld3
import Derived.Deep.RegionLaw
import Derived.Deep.RegionWith
import Derived.Deep.WholeRow
import Derived.Great.BuildSlice
import Derived.Great.FillDense
import Derived.Laws.AppendOwnNone
import Derived.Laws.BitsLemmas
import Derived.Laws.BytesArg
import Derived.Laws.CopyOwn
import Derived.Laws.CopyRow
import Derived.Laws.MakeOwn
import Derived.Laws.OwnMore
import Derived.Laws.Tables
import Derived.Lib.SlBytesConst
import Derived.LoopIn
import Derived.LoopNIn
import Derived.Maps.AppendAt
import Derived.OwnWalkIn
import Derived.RangeFuncBound
import Derived.RangeFuncCalls
import Derived.RangeFuncLeaves
import Derived.RangeFuncNested
import Derived.RangeFuncRecord
import Derived.Shelf.Abstract
import Derived.Shelf.RegionOpen
import Derived.TacticsInMore
import Derived.WalkKit
import Derived.WalkLawsBesides
import Derived.WalkSpells
import Derived.Test.YtbfelelngoonjaaX03
import Derived.Test.YtbfelelngoonjaaX07
import Derived.Test.YtbfelelngoonjaaX10
import Derived.Test.YtbfelelngoonjaaX11
/- Layer oracle: what the layers below give. -/
namespace Go.Proofs.Ytbfelelngoonjaa
open Go.RowKit Go.Shelf
set_option maxRecDepth 100000
set_option linter.unusedVariables false
set_option linter.unusedSimpArgs false
attribute [local go_sem] Oper.semAt_some

/-- The blocks below S0, and those that one owns, are as they were. -/
structure Sam (S0 : Nat) (own : Nat → Prop) (W W' : World) : Prop where
  os : W'.os = W.os
  tape : W'.tape = W.tape
  output : W'.output = W.output
  size : W.heap.size ≤ W'.heap.size
  block : ∀ b, b < W.heap.size → b < S0 ∨ own b → W'.heap[b]? = W.heap[b]?
theorem Sam.of {S0 : Nat} {own : Nat → Prop} {W W' : World} (h : Below W.heap.size W W') : Sam S0 own W W' := ⟨h.os, h.tape, h.output, h.size, fun b hb _ => h.block b hb⟩
theorem Sam.below {S0 : Nat} {own : Nat → Prop} {W W' : World} (h : Sam S0 own W W') (hs : S0 ≤ W.heap.size) : Below S0 W W' := ⟨h.os, h.tape, h.output, h.size, fun b hb => h.block b (by omega) (.inl hb)⟩
theorem Sam.lift {S0 S1 : Nat} {own : Nat → Prop} {W W' : World} (h : Sam S1 own W W') (hs : S0 ≤ S1) : Sam S0 own W W' := ⟨h.os, h.tape, h.output, h.size, fun b hb ho => h.block b hb (ho.imp (fun x => by omega) id)⟩
theorem Sam.trans {S0 : Nat} {own : Nat → Prop} {a b c : World} (h : Sam S0 own a b) (k : Sam S0 own b c) : Sam S0 own a c := ⟨k.os.trans h.os, k.tape.trans h.tape, k.output.trans h.output, Nat.le_trans h.size k.size, fun x hx ho => (k.block x (Nat.lt_of_lt_of_le hx h.size) ho).trans (h.block x hx ho)⟩
/-- Block b holds the entry's bytes. -/
def EB (e : En) (b : Nat) : Prop := 0 < e.n ∧ ∃ off, e.sp = some ⟨b, off, none⟩
theorem EB.cell {N : Nat} {W : World} {e : En} {b : Nat} (h : EnOK N W e) (hb : EB e b) : ∃ off x, W.cell? ⟨b, off, none⟩ = some (.int .u8 x) := by
  obtain ⟨h0, off, q⟩ := hb
  obtain ⟨b', off', q', -, hB⟩ := h.body.at0 h0
  rw [q] at q'; cases q'
  exact ⟨_, _, hB 0 h0⟩
/-- An iterator tells n entries. M: what it wants of the memory; T j e: what the entry j is; S0: all below belongs to others, and own what those own who are told. -/
def Tells (gf : Nat) (lb : Array Value) (S0 B0 : Nat) (M : World → Prop) (T : Nat → En → Prop) (n : Nat) : Prop :=
  ∀ (k lp : Nat) (J : Nat → (Nat → Prop) → World → Prop), (∀ j own W, J j own W → M W ∧ S0 ≤ W.heap.size ∧ ∀ b, own b → b < W.heap.size) → (∀ j own W W', J j own W → Sam S0 own W W' → J j own W') →
    (∀ j own W e, J j own W → j < n → EnOK W.heap.size W e → T j e → (∀ b, EB e b → b < B0 ∨ ¬ own b) → YieldAt Fence.wide (k - 1) Try.prog lp #[.agg e.arr] W fun r W' => r = .returned (.bool true) ∧ ∃ own', J (j + 1) own' W' ∧ (∀ b, own' b → own b ∨ W.heap.size ≤ b ∨ EB e b) ∧ (∀ b, S0 ≤ b → b < W.heap.size → ¬ own b → W'.heap[b]? = W.heap[b]?)) →
    ∀ W own, J 0 own W → CallsIn Fence.wide k Try.prog gf (#[.func (.yield lp) #[] #[]] ++ lb) W fun e W' => (∃ v, e = .returned v) ∧ ∃ own', J n own' W'
theorem li77w {n : Nat} {ops : Array Oper} {rest : List Oper} {o : Oper} {a : Act} {w : World} {Q : Exit → Act → World → Prop} (hgd : o.guard = none) (x : Operand) (ho : o.op = .load 71 x)
    (b off : Nat) (hx : a.eval x = .pointer (some ⟨b, off, none⟩)) (e : En) (he : e.sm.length = 32) (hc : w.rangeAt b off e.cells)
    (h : wpListIn Fence.wide n Try.prog ops Q rest (a.put o.dst (.agg e.arr)) w) : wpListIn Fence.wide n Try.prog ops Q (o :: rest) a w :=
  wpListIn_plain hgd fun _ hK => opInw (by rw [ho]; intro c hc; cases hc) (wp_load_mid 71 x ho b off hx e.cells _ hc Try.underlying71 rfl (by rw [En.len he]; exact size54) (hK _ _ h))
theorem si77nw {n : Nat} {ops : Array Oper} {rest : List Oper} {o : Oper} {a : Act} {Q : Exit → Act → World → Prop} (hgd : o.guard = none) (x y : Operand) (ho : o.op = .store 71 x y) (W : World) (g : Nat) (hgW : W.heap.size = g) {z : Array Value} (hz : z.size = 33)
    (e : En) (hx : a.eval x = .pointer (some ⟨g, 0, none⟩)) (hy : a.eval y = .agg e.arr) (he : e.sm.length = 32)
    (h : wpListIn Fence.wide n Try.prog ops Q rest (a.put o.dst undef) (W.alloc (.cells e.arr 71))) : wpListIn Fence.wide n Try.prog ops Q (o :: rest) a (W.alloc (.cells z 71)) := by
  subst hgW
  exact wpListIn_plain hgd fun _ hK => opInw (by rw [ho]; intro c hc; cases hc) (wp_store_row 71 x y ho W.heap.size e.arr hx hy 71 z (Arr.new W 71 z) (s54 he) (by rw [hz, En.size he]) e.oneA (hK _ _ (by rw [World.setRow_alloc_new]; exact h)))
/-- .. in a round. -/
theorem li77 {l n : Nat} {ops : Array Oper} {rest : List Oper} {o : Oper} {a : Act} {w : World} {Q : Exit → Act → World → Prop} (hgd : o.guard = none) (x : Operand) (ho : o.op = .load 71 x)
    (b off : Nat) (hx : a.eval x = .pointer (some ⟨b, off, none⟩)) (e : En) (he : e.sm.length = 32) (hc : w.rangeAt b off e.cells)
    (h : wpListIn (Fence.wide.inRound l) n Try.prog ops Q rest (a.put o.dst (.agg e.arr)) w) : wpListIn (Fence.wide.inRound l) n Try.prog ops Q (o :: rest) a w :=
  wpListIn_plain hgd fun _ hK => opIn (by rw [ho]; intro c hc; cases hc) (wp_load_mid 71 x ho b off hx e.cells _ hc Try.underlying71 rfl (by rw [En.len he]; exact size54) (hK _ _ h))
theorem si77n {l n : Nat} {ops : Array Oper} {rest : List Oper} {o : Oper} {a : Act} {Q : Exit → Act → World → Prop} (hgd : o.guard = none) (x y : Operand) (ho : o.op = .store 71 x y) (W : World) (g : Nat) (hgW : W.heap.size = g) {z : Array Value} (hz : z.size = 33)
    (e : En) (hx : a.eval x = .pointer (some ⟨g, 0, none⟩)) (hy : a.eval y = .agg e.arr) (he : e.sm.length = 32)
    (h : wpListIn (Fence.wide.inRound l) n Try.prog ops Q rest (a.put o.dst undef) (W.alloc (.cells e.arr 71))) : wpListIn (Fence.wide.inRound l) n Try.prog ops Q (o :: rest) a (W.alloc (.cells z 71)) := by
  subst hgW
  exact wpListIn_plain hgd fun _ hK => opIn (by rw [ho]; intro c hc; cases hc) (wp_store_row 71 x y ho W.heap.size e.arr hx hy 71 z (Arr.new W 71 z) (s54 he) (by rw [hz, En.size he]) e.oneA (hK _ _ (by rw [World.setRow_alloc_new]; exact h)))
set_option maxHeartbeats 400000 in
theorem values1_any (sp : Option Addr) (n cap : Nat) (w : World) :
    Calls Try.prog 74 #[.slice sp n cap] w fun e w' => e = .returned (.func (Fn.func 93) #[] #[.pointer (some ⟨w.heap.size, 0, none⟩)]) ∧ w' = w.alloc (.cells #[.slice sp n cap] 121) := by
  have hmf : ∀ (fn : Fn) (first cap : Array Value) (w : World), (Instr.makeFunc fn first cap).run Try.prog w = .ok (.func fn first cap) w := fun _ _ _ _ => rfl
  go_enter Try.func74, Try.ntmps74
  go_wp2
  go_ret
  exact ⟨rfl, rfl⟩
set_option maxHeartbeats 400000 in
theorem values2_any (sp : Option Addr) (n cap : Nat) (w : World) :
    Calls Try.prog 76 #[.slice sp n cap] w fun e w' => e = .returned (.func (Fn.func 96) #[] #[.pointer (some ⟨w.heap.size, 0, none⟩)]) ∧ w' = w.alloc (.cells #[.slice sp n cap] 26) := by
  have hmf : ∀ (fn : Fn) (first cap : Array Value) (w : World), (Instr.makeFunc fn first cap).run Try.prog w = .ok (.func fn first cap) w := fun _ _ _ _ => rfl
  go_enter Try.func76, Try.ntmps76
  go_wp2
  go_ret
  exact ⟨rfl, rfl⟩
set_option maxHeartbeats 400000 in
theorem pairs_any (sp : Option Addr) (n cap : Nat) (w : World) :
    Calls Try.prog 75 #[.slice sp n cap] w fun e w' => e = .returned (.func (Fn.func 94) #[] #[.pointer (some ⟨w.heap.size, 0, none⟩)]) ∧ w' = w.alloc (.cells #[.slice sp n cap] 121) := by
  have hmf : ∀ (fn : Fn) (first cap : Array Value) (w : World), (Instr.makeFunc fn first cap).run Try.prog w = .ok (.func fn first cap) w := fun _ _ _ _ => rfl
  go_enter Try.func75, Try.ntmps75
  go_wp2
  go_ret
  exact ⟨rfl, rfl⟩
set_option maxHeartbeats 400000 in
theorem inTurn_any (sp : Option Addr) (n cap : Nat) (w : World) :
    Calls Try.prog 73 #[.slice sp n cap] w fun e w' => e = .returned (.func (Fn.func 92) #[] #[.pointer (some ⟨w.heap.size, 0, none⟩)]) ∧ w' = w.alloc (.cells #[.slice sp n cap] 140) := by
  have hmf : ∀ (fn : Fn) (first cap : Array Value) (w : World), (Instr.makeFunc fn first cap).run Try.prog w = .ok (.func fn first cap) w := fun _ _ _ _ => rfl
  go_enter Try.func73, Try.ntmps73
  go_wp2
  go_ret
  exact ⟨rfl, rfl⟩
set_option maxHeartbeats 1000000 in
theorem values1_in (gc S0 B0 : Nat) (sp : Option Addr) (n cap : Nat) (es : List En) (hgc : gc < S0) (hB0 : B0 ≤ S0) (hn : n ≤ 1000) :
    Tells 93 #[.pointer (some ⟨gc, 0, none⟩)] S0 B0 (fun W => W.cell? ⟨gc, 0, none⟩ = some (.slice sp n cap) ∧ ES B0 W sp n cap es) (fun j e => es[j]? = some e) n := by
  intro k lp J hJM hJB hY W own0 h0
  refine callsIn_of_wp Try.func93 rfl trivial ?_ rfl
  simp only [Try.ntmps93, List.size_toArray, List.length_cons, List.length_nil, Nat.reduceAdd, Nat.reduceSub, Array.replicate_succ, Array.replicate_zero, List.push_toArray, List.append_toArray, List.nil_append, List.cons_append]
  obtain ⟨⟨c1, hE0⟩, hsz, -⟩ := hJM 0 own0 W h0
  have hl := hE0.len
  clear hE0
  gi_wp2
  gi_loopw [7] (fun d wr => ∃ (j : Nat) (own : Nat → Prop), d = .int .i64 (j : Int) ∧ j ≤ n ∧ J j own wr) (fun d _ => n - (intOf d).toNat)
  case atStart => exact ⟨0, own0, rfl, by omega, h0⟩
  case round =>
    obtain ⟨j, own, rfl, hj, hJj⟩ := hrel
    clear h0
    obtain ⟨⟨-, hE⟩, hszr, -⟩ := hJM j own wr hJj
    by_cases hlt : j < n
    · have hI : (j : Int) < n := by omega
      obtain ⟨g, off, rfl, hgN, hR⟩ := hE.at0 (by omega)
      obtain ⟨e, he⟩ : ∃ e, es[j]? = some e := ⟨es[j]'(by rw [← hl.out]; exact hlt), List.getElem?_eq_getElem _⟩
      have heo := hE.ok e (List.mem_of_getElem? he)
      have he32 := heo.s32
      have hRe := hR j e he
      have A1 := Arr.new wr 71 e.arr
      have hb1 := alloc_bel' wr (.cells e.arr 71)
      have hJ1 := hJB j own wr _ hJj (Sam.of hb1)
      obtain ⟨fn, tmps, assign, body, hy, hR⟩ := hY j own _ e hJ1 hlt ((heo.below (hb1.mono (by omega))).mono (by simp; omega)) he (fun b ⟨hb0, off, q⟩ => by
        obtain ⟨b', off', q', hb', -⟩ := heo.body.at0 hb0
        rw [q] at q'; cases q'
        exact .inl hb')
      clear he
      gi_wp2_with (first
        | (refine li77w (by rfl) _ (by rfl) g (off + j * 33) (by rfl) e he32 hRe ?_)
        | (refine si77nw (by rfl) _ _ (by rfl) wr wr.heap.size rfl (by rfl) e (by rfl) (by rfl) he32 ?_)
        | (refine li77w (by rfl) _ (by rfl) wr.heap.size 0 (by rfl) e he32 (rangeE A1) ?_))
      refine ⟨fun h => (by cases h), hR.mono ?_⟩
      rintro r W3 ⟨rfl, own3, hJ3, -⟩
      gi_wp2
      go_roundw
      case rel => exact ⟨j + 1, own3, by go_num, by omega, hJ3⟩
      case measure => simp [intOf]; omega
    · obtain rfl : j = n := by omega
      have hI : ¬ (j : Int) < j := by omega
      gi_wp2
      go_end0
      exact ⟨⟨_, rfl⟩, own, hJj⟩
set_option maxHeartbeats 1000000 in
theorem values2_in (gc S0 B0 : Nat) (sp : Option Addr) (n cap : Nat) (es : List En) (hgc : gc < S0) (hB0 : B0 ≤ S0) (hn : n ≤ 1000) :
    Tells 96 #[.pointer (some ⟨gc, 0, none⟩)] S0 B0 (fun W => W.cell? ⟨gc, 0, none⟩ = some (.slice sp n cap) ∧ ES B0 W sp n cap es) (fun j e => es[j]? = some e) n := by
  intro k lp J hJM hJB hY W own0 h0
  refine callsIn_of_wp Try.func96 rfl trivial ?_ rfl
  simp only [Try.ntmps96, List.size_toArray, List.length_cons, List.length_nil, Nat.reduceAdd, Nat.reduceSub, Array.replicate_succ, Array.replicate_zero, List.push_toArray, List.append_toArray, List.nil_append, List.cons_append]
  obtain ⟨⟨c1, hE0⟩, hsz, -⟩ := hJM 0 own0 W h0
  have hl := hE0.len
  clear hE0
  gi_wp2
  gi_loopw [7] (fun d wr => ∃ (j : Nat) (own : Nat → Prop), d = .int .i64 (j : Int) ∧ j ≤ n ∧ J j own wr) (fun d _ => n - (intOf d).toNat)
  case atStart => exact ⟨0, own0, rfl, by omega, h0⟩
  case round =>
    obtain ⟨j, own, rfl, hj, hJj⟩ := hrel
    clear h0
    obtain ⟨⟨-, hE⟩, hszr, -⟩ := hJM j own wr hJj
    by_cases hlt : j < n
    · have hI : (j : Int) < n := by omega
      obtain ⟨g, off, rfl, hgN, hR⟩ := hE.at0 (by omega)
      obtain ⟨e, he⟩ : ∃ e, es[j]? = some e := ⟨es[j]'(by rw [← hl.out]; exact hlt), List.getElem?_eq_getElem _⟩
      have heo := hE.ok e (List.mem_of_getElem? he)
      have he32 := heo.s32
      have hRe := hR j e he
      have A1 := Arr.new wr 71 e.arr
      have hb1 := alloc_bel' wr (.cells e.arr 71)
      have hJ1 := hJB j own wr _ hJj (Sam.of hb1)
      obtain ⟨fn, tmps, assign, body, hy, hR⟩ := hY j own _ e hJ1 hlt ((heo.below (hb1.mono (by omega))).mono (by simp; omega)) he (fun b ⟨hb0, off, q⟩ => by
        obtain ⟨b', off', q', hb', -⟩ := heo.body.at0 hb0
        rw [q] at q'; cases q'
        exact .inl hb')
      clear he
      gi_wp2_with (first
        | (refine li77w (by rfl) _ (by rfl) g (off + j * 33) (by rfl) e he32 hRe ?_)
        | (refine si77nw (by rfl) _ _ (by rfl) wr wr.heap.size rfl (by rfl) e (by rfl) (by rfl) he32 ?_)
        | (refine li77w (by rfl) _ (by rfl) wr.heap.size 0 (by rfl) e he32 (rangeE A1) ?_))
      refine ⟨fun h => (by cases h), hR.mono ?_⟩
      rintro r W3 ⟨rfl, own3, hJ3, -⟩
      gi_wp2
      go_roundw
      case rel => exact ⟨j + 1, own3, by go_num, by omega, hJ3⟩
      case measure => simp [intOf]; omega
    · obtain rfl : j = n := by omega
      have hI : ¬ (j : Int) < j := by omega
      gi_wp2
      go_end0
      exact ⟨⟨_, rfl⟩, own, hJj⟩
end Go.Proofs.Ytbfelelngoonjaa
/- Layer oracle: what the layers below give. -/
namespace Go.Proofs.Ytbfelelngoonjaa
open Go.RowKit
set_option maxRecDepth 100000
set_option linter.unusedVariables false
set_option linter.unusedSimpArgs false

/-- Each entry's bytes lie behind those of the ones ahead of it. -/
def Asc (es : List En) : Prop := es.Pairwise fun e f => ∀ b off b' off', e.sp = some ⟨b, off, none⟩ → f.sp = some ⟨b', off', none⟩ → b < b'
/-- What the program's Path answers: all of it is new. -/
def PaF (i : Int) (X : List Int) (ls : List (List Int)) (w : World) (r : Ending) (w' : World) : Prop :=
  ∃ sp n cap es, r = .returned (.tuple #[.slice sp n cap, .int .i64 (foE i ls)]) ∧ ES w'.heap.size w' sp n cap es ∧ Hid (es.map En.bs = if FoOK i ls.length then pth i.toNat X ls else []) ∧ Hid (∀ e ∈ es, e.sm = shl e.bs) ∧ (∀ e ∈ es, ∀ b off, e.sp = some ⟨b, off, none⟩ → w.heap.size ≤ b) ∧ (∀ b off, sp = some ⟨b, off, none⟩ → w.heap.size ≤ b) ∧ Hid (Asc es) ∧ Below w.heap.size w w'
theorem CL.grownO {w w' : World} {g : Nat} {m : Int} {X : List Int} {row : Option Nat} (h : CL w g m X) (hg : w.grownBy w' row) (hne : row ≠ some g) : CL w' g m X := by
  cases row with
  | some k => exact h.grown hg (fun e => hne (by rw [e]))
  | none => exact h.grown (g' := g + 1) ⟨hg.os, hg.tape, hg.output, hg.size, fun k hk _ => hg.block k hk (by simp)⟩ (by omega)
theorem size64 : (Try.prog.info? 136).map (·.size) = some 34 := by kernel_rfl
theorem clm_sz {m : Int} {X : List Int} (hX : X.length = 32) : (clA m X).size = 34 := by simp [clA, clm_len hX]
theorem s64 {m : Int} {X : List Int} (h : X.length = 32) : (Try.prog.info? 136).map (·.size) = some (clA m X).size := by rw [clm_sz h]; exact size64
theorem clm_all (m : Int) (X : List Int) : (clA m X).all (·.oneCell') = true := all_oneCell_toArray (clm_one m X)
set_option maxRecDepth 100000 in
set_option maxHeartbeats 2000000 in
theorem path_ok (m : Nat) (X : List Int) (N : Nat) (sp : Option Addr) (n cap : Nat) (ls : List (List Int)) (w : World) (hX : X.length = 32) (bX : Bts X) (hS : HS N w sp n cap ls) (bS : ∀ Y ∈ ls, Bts Y) (h1 : n ≤ 16) (h2 : m < 2 ^ n) :
    Calls Try.prog 69 #[.int .i64 m, .agg (h8 X), .slice sp n cap] w (PaF m X ls w) := by
  obtain ⟨i0, hi, hz0, hz1, hz2⟩ := info_parts info54
  have A0 := Arr.new w 32 (h8 X)
  have hb0 := alloc_bel' w (.cells (h8 X) 32)
  have hm : m ≤ 9223372036854775807 := by have := pow16 h1; omega
  have hl := hS.len
  have hS := hS.here
  have hfo := fold_ok m X w.heap.size sp n cap ls _ hX (hS.below hb0) h1 h2
  have hfl := fo_len (i := m) (ps := ls) hX
  have hFo : FoOK (m : Int) ls.length := ⟨by rw [← hl.out]; exact h1, by omega, by rw [← hl.out]; omega⟩
  have hfe : Hid (foE (m : Int) ls = 0) := Hid.mk' (by unfold foE; rw [if_pos hFo])
  replace hFo := Hid.mk' hFo
  replace bS := Hid.mk' bS
  replace h2 := Hid.mk' h2
  replace hfo := Hid.mk' hfo
  go_enter Try.func69, Try.ntmps69
  go_upto_region 4 with (first
    | (refine ld24 (by rfl) _ (by rfl) w.heap.size 0 (by rfl) X hX A0.range ?_)
    | (go_at_call 87; go_must (refine hfo.out.mono ?_; rintro e w2 ⟨rfl, hb2⟩))
    | (refine st24n (by rfl) _ _ (by rfl) w2 w2.heap.size rfl (by rfl) _ (by rfl) (by rfl) hfl ?_))
  have A2 := ((A0.below hb2 (by simp)).alloc (.cells (h8 (fo m X ls)) 32))
  have hB2 := (hb0.trans (hb2.mono (by simp))).alloc (Nat.le_trans hb0.size hb2.size) (.cells (h8 (fo m X ls)) 32)
  generalize w2.alloc (.cells (h8 (fo m X ls)) 32) = W2 at *
  go_upto_region 5 with (first
    | (at_make; go_must (refine wpList_make_own _ (by rfl) (.const (.int .i64 0)) (.tmp 25) 26 (by rfl) w.heap.size 71 i0 (.agg (En.arr ⟨none, 0, 0, [], Z32⟩)) 33 Try.underlying26 hi hz0 hz1 .i64 .i64 _ n (by rfl) (by rfl) (by omega) (by rw [hz2]; omega) (by unfold maxLen; omega) hB2.size ?_; intro w3 hown3 hg3)))
  have A3 := A2.grown hg3 (by simp)
  have hB3 := hB2.grown hg3 hB2.size (by simp)
  have E3 : EO w.heap.size w3.heap.size w3 (.slice (some ⟨W2.heap.size, 0, none⟩) 0 n) [] := ⟨hown3, (fun e he => by cases he), (fun e he => by cases he)⟩
  have hs3 : W2.heap.size < w3.heap.size := own_lt hown3 rfl
  go_upto_region 6 with (first
    | (refine ld24 (by rfl) _ (by rfl) w.heap.size 0 (by rfl) X hX A3.range ?_)
    | (refine bdT (by rfl) 136 _ (by rfl) (by rfl) (built64 (m : Int) X hX) ?_)
    | (refine wpList_store_new w3 _ 136 (by rfl) 136 (.tmp 11) (.tmp 29) (by rfl) (clA m X) (by rfl) (by rfl) (s64 hX) (clm_sz hX).symm (clm_all _ _) ?_))
  have E4 := E3.below (alloc_bel' w3 (.cells (clA m X) 136))
  have C4 := CL.of_arr (Arr.new w3 136 (clA m X)) hX
  have hB4 := hB3.alloc hB3.size (.cells (clA m X) 136)
  have hs4 : w3.heap.size < (w3.alloc (.cells (clA m X) 136)).heap.size := by simp
  have hv4 : (Value.slice (some ⟨W2.heap.size, 0, none⟩) 0 n).ownBlock ≠ some w3.heap.size := by simp [Value.ownBlock]; omega
  generalize w3.alloc (.cells (clA m X) 136) = W4 at *
  clear A3 A2 A0
  go_upto_region 7 with fail
  go_loopw [10, 32] (fun v q wr => ∃ (j : Nat) (es : List En), q = .int .i64 (j : Int) ∧ j ≤ n ∧ es.length = j ∧ Below w.heap.size w wr ∧ EO w.heap.size w3.heap.size wr v es ∧ CL wr w3.heap.size ((m / 2 ^ j : Nat) : Int) (nd m X ls j) ∧ v.ownBlock ≠ some w3.heap.size ∧ Hid (es.map En.bs = (pth m X ls).take j) ∧ Hid (∀ e ∈ es, e.sm = shl e.bs) ∧ Hid (Asc es))
    (fun _ q _ => n - (intOf q).toNat)
  case atStart => exact ⟨0, [], rfl, by omega, rfl, hB4, E4, by simpa [nd] using C4, hv4, Hid.mk' (by simp), Hid.mk' (fun e he => by cases he), Hid.mk' List.Pairwise.nil⟩
  case round =>
    obtain ⟨j, es, rfl, hj, hel, hbl, hE, hC, hv, hbs, hsm, hasc⟩ := hrel
    have hws3 := hB3.size
    clear E4 C4 hB4 hs4 hv4 E3 hB3
    by_cases hlt : j < n
    · have hI : (j : Int) < n := by omega
      have hSr := hS.below hbl
      obtain ⟨g, off, rfl, hgN, hR⟩ := hSr.at0 (by omega)
      obtain ⟨Y, hY⟩ : ∃ Y, ls[j]? = some Y := ⟨ls[j]'(by rw [← hl.out]; exact hlt), List.getElem?_eq_getElem _⟩
      have hY32 := hS.l32 Y (List.mem_of_getElem? hY)
      have bY := bS.out Y (List.mem_of_getElem? hY)
      have hRY := hR j Y hY
      have hN32 := nd_len (m := m) (ls := ls) hX j
      have bN := nd_bts (m := m) (ls := ls) bX j
      have hnx := Hid.mk' (nd_succ (m := m) (X := X) hY)
      have hpx := Hid.mk' (pth_get (m := m) (X := X) hY)
      have hdv := Hid.mk' (div_succ m j)
      have hq : m / 2 ^ j ≤ 9223372036854775807 := Nat.le_trans (Nat.div_le_self _ _) hm
      replace hY := Hid.mk' hY
      obtain ⟨Xj, hXj⟩ : ∃ Xj, Xj = nd m X ls j := ⟨_, rfl⟩
      obtain ⟨q, hqe⟩ : ∃ q, q = m / 2 ^ j := ⟨_, rfl⟩
      rw [← hXj, ← hqe] at hC hnx hpx
      rw [← hXj] at hN32 bN
      rw [← hqe] at hdv hq
      clear hXj hqe
      have hgc := hC.lt
      have hEa := hE.below (alloc_bel' wr (.cells (h8 Y) 32))
      have hCa := hC.below (alloc_bel' wr (.cells (h8 Y) 32)) hgc
      have Ya := Arr.new wr 32 (h8 Y)
      have hbla := hbl.alloc hbl.size (.cells (h8 Y) 32)
      go_upto_region 9 with (first
        | (refine ld24 (by rfl) _ (by rfl) g (off + j * 32) (by rfl) Y hY32 hRY ?_)
        | (refine st24n (by rfl) _ _ (by rfl) wr wr.heap.size rfl (by rfl) Y (by rfl) (by rfl) hY32 ?_))
      have hsa : (wr.alloc (.cells (h8 Y) 32)).heap.size = wr.heap.size + 1 := by simp
      generalize wr.alloc (.cells (h8 Y) 32) = wa at *
      have hob := fun (k : Nat) hk => own_lt (b := k) hEa.own hk
      have hac := hCa.lt
      go_upto_region 10 with (first
        | (refine ld24 (by rfl) _ (by rfl) wr.heap.size 0 (by rfl) Y hY32 Ya.range ?_)
        | (go_at_call 88; go_must (refine (up_any w3.heap.size q Xj Y wa hCa hN32 hY32 bN bY hq).mono ?_; rintro e w5 ⟨sp5, cp5, rfl, hb5, hg5, hC5, hG5⟩; have hsh := shl_len (pb q Xj Y); have hE5 := (hEa.grown hG5 hv).below (alloc_bel' w5 (.cells (En.arr ⟨sp5, 65, cp5, pb q Xj Y, shl (pb q Xj Y)⟩) 71)); have hC6 := hC5.below (alloc_bel' w5 (.cells (En.arr ⟨sp5, 65, cp5, pb q Xj Y, shl (pb q Xj Y)⟩) 71)) hC5.lt; have hg5s := hG5.size; have hok5 : EnOK (w5.alloc (.cells (En.arr ⟨sp5, 65, cp5, pb q Xj Y, shl (pb q Xj Y)⟩) 71)).heap.size (w5.alloc (.cells (En.arr ⟨sp5, 65, cp5, pb q Xj Y, shl (pb q Xj Y)⟩) 71)) ⟨sp5, 65, cp5, pb q Xj Y, shl (pb q Xj Y)⟩ := (⟨(hb5.below (alloc_bel' w5 _)).mono (by simp), hsh⟩); have hbl5 := (hbla.grown hG5 (by omega) (fun k e => by have := Option.some.inj e; omega)).alloc (by omega) (.cells (En.arr ⟨sp5, 65, cp5, pb q Xj Y, shl (pb q Xj Y)⟩) 71)))
        | (refine bldE (by rfl) _ (by rfl) ⟨sp5, 65, cp5, pb q Xj Y, shl (pb q Xj Y)⟩ (by rfl) hsh ?_)
        | (at_builtin; go_must (refine appE (by rfl) (.tmp 36) (.tmp 39) (by rfl) w.heap.size w3.heap.size _ es ⟨sp5, 65, cp5, pb q Xj Y, shl (pb q Xj Y)⟩ (by rfl) hE5 w5.heap.size 1 (by rfl) (Arr.new w5 71 _) hok5 (apart hb5 (by omega) hg5 hob (by omega) hac (by simp)) (by omega) (by simp; omega) ?_; intro v' w6 hE6 hG6 hl6; have hC7 := hC6.grownO hG6 hv; have hbl7 := hbl5.grown hG6 (by simp; omega) (fun k e => own_ge hE.own k e))))
      go_wp2_with fail
      go_roundw
      case rel =>
        refine ⟨j + 1, _, by go_num, by omega, by simp [hel], hbl7, hE6, ?_, ?_, Hid.mk' ?_, Hid.mk' ?_, Hid.mk' ?_⟩
        · rw [hnx.out, hdv.out]; exact hC7
        · rcases hl6 with e | e
          · rw [e]; exact hv
          · rw [e]; simp; omega
        · rw [List.map_append, hbs.out, take_succ' hpx.out]; rfl
        · intro e he
          rcases List.mem_append.1 he with he | he
          · exact hsm.out e he
          · simp at he; subst he; rfl
        · refine List.pairwise_append.2 ⟨hasc.out, List.pairwise_singleton _ _, fun f hf g' hg' b off b' off' e1 e2 => ?_⟩
          simp at hg'; subst hg'
          have a1 := (hE.ap f hf b off e1).2.1
          have a2 := hg5 b' off' e2
          omega
      case measure => simp [intOf]; omega
    · obtain rfl : j = n := by omega
      have hI : ¬ (j : Int) < j := by omega
      obtain ⟨sp6, cp6, rfl, hES⟩ := hE.es (by omega)
      go_wp2_with fail
      go_ret2
      refine ⟨sp6, j, cp6, es, by rw [hfe.out]; rfl, by rw [← hel]; exact hES, Hid.mk' ?_, hsm, fun e he b off e1 => (hE.ap e he b off e1).1, fun b off e => own_ge hE.own b (by rw [e]; rfl), hasc, hbl⟩
      · rw [if_pos hFo.out, hbs.out, hl.out, ← pth_len m X ls, List.take_length]; simp
set_option maxRecDepth 100000 in
set_option maxHeartbeats 1000000 in
theorem path_no (i : Int) (X : List Int) (N : Nat) (sp : Option Addr) (n cap : Nat) (ls : List (List Int)) (w : World) (hX : X.length = 32) (hS : HS N w sp n cap ls) (h : ¬ FoOK i n) :
    Calls Try.prog 69 #[.int .i64 i, .agg (h8 X), .slice sp n cap] w (PaF i X ls w) := by
  have A0 := Arr.new w 32 (h8 X)
  have hb0 := alloc_bel' w (.cells (h8 X) 32)
  have hfo := fold_no i X sp n cap (w.alloc (.cells (h8 X) 32)) hX hS.small h
  have hl := hS.len.out
  rw [hl] at h
  have hfe : Hid (foE i ls = 2) := Hid.mk' (by unfold foE; rw [if_neg h])
  replace h := Hid.mk' h
  clear hl
  go_enter Try.func69, Try.ntmps69
  go_wp2_with (first
    | (refine ld24 (by rfl) _ (by rfl) w.heap.size 0 (by rfl) X hX A0.range ?_)
    | (go_at_call 87; go_must (refine hfo.mono ?_; rintro e w2 ⟨rfl, hb2⟩))
    | (refine st24n (by rfl) _ _ (by rfl) w2 w2.heap.size rfl (by rfl) Z32 (by rfl) (by rfl) Z32_len ?_))
  go_ret2
  have hB2 := (hb0.trans (hb2.mono (by simp))).alloc (Nat.le_trans hb0.size hb2.size) (.cells (h8 Z32) 32)
  exact ⟨none, 0, 0, [], by rw [hfe.out]; rfl, ES.nil0 _ _, Hid.mk' (by rw [if_neg h.out]; rfl), Hid.mk' (fun e he => by cases he), (fun e he => by cases he), (fun b off e => by cases e), Hid.mk' List.Pairwise.nil, hB2⟩
theorem path_any (i : Int) (X : List Int) (N : Nat) (sp : Option Addr) (n cap : Nat) (ls : List (List Int)) (w : World) (hX : X.length = 32) (bX : Bts X) (hS : HS N w sp n cap ls) (bS : ∀ Y ∈ ls, Bts Y) :
    Calls Try.prog 69 #[.int .i64 i, .agg (h8 X), .slice sp n cap] w (PaF i X ls w) := by
  by_cases h : FoOK i n
  · obtain ⟨h1, h2, h3⟩ := h
    obtain ⟨m, rfl⟩ : ∃ m : Nat, i = m := ⟨i.toNat, by omega⟩
    exact path_ok m X N sp n cap ls w hX bX hS bS h1 (by omega)
  · exact path_no i X N sp n cap ls w hX hS h
end Go.Proofs.Ytbfelelngoonjaa
