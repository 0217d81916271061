/- Pl, Pm. -/
import Derived.Test.YtlebojbfcolkhaaA21
import Derived.Test.YtlebojbfcolkhaaCi
import Derived.Test.YtlebojbfcolkhaaA15
import Derived.Test.YtlebojbfcolkhaaA18
/- Layer state: what is told one after the other: slices' values. -/
namespace Go.Proofs.Ytlebojbfcolkhaa
open Go.RowKit Go.Shelf
set_option maxRecDepth 100000
set_option linter.unusedVariables false
set_option linter.unusedSimpArgs false
attribute [local go_sem] Oper.semAt_some

/-- The blocks below S0, and those that one owns, are as they were. -/
structure Sam (S0 : Nat) (own : Nat → Prop) (W W' : World) : Prop where
  os : W'.os = W.os
  tape : W'.tape = W.tape
  output : W'.output = W.output
  size : W.heap.size ≤ W'.heap.size
  block : ∀ b, b < W.heap.size → b < S0 ∨ own b → W'.heap[b]? = W.heap[b]?
theorem Sam.of {S0 : Nat} {own : Nat → Prop} {W W' : World} (h : Below W.heap.size W W') : Sam S0 own W W' := ⟨h.os, h.tape, h.output, h.size, fun b hb _ => h.block b hb⟩
theorem Sam.below {S0 : Nat} {own : Nat → Prop} {W W' : World} (h : Sam S0 own W W') (hs : S0 ≤ W.heap.size) : Below S0 W W' := ⟨h.os, h.tape, h.output, h.size, fun b hb => h.block b (by omega) (.inl hb)⟩
theorem Sam.lift {S0 S1 : Nat} {own : Nat → Prop} {W W' : World} (h : Sam S1 own W W') (hs : S0 ≤ S1) : Sam S0 own W W' := ⟨h.os, h.tape, h.output, h.size, fun b hb ho => h.block b hb (ho.imp (fun x => by omega) id)⟩
theorem Sam.trans {S0 : Nat} {own : Nat → Prop} {a b c : World} (h : Sam S0 own a b) (k : Sam S0 own b c) : Sam S0 own a c := ⟨k.os.trans h.os, k.tape.trans h.tape, k.output.trans h.output, Nat.le_trans h.size k.size, fun x hx ho => (k.block x (Nat.lt_of_lt_of_le hx h.size) ho).trans (h.block x hx ho)⟩
/-- Block b holds the entry's bytes. -/
def EB (e : En) (b : Nat) : Prop := 0 < e.n ∧ ∃ off, e.sp = some ⟨b, off, none⟩
theorem EB.cell {N : Nat} {W : World} {e : En} {b : Nat} (h : EnOK N W e) (hb : EB e b) : ∃ off x, W.cell? ⟨b, off, none⟩ = some (.int .u8 x) := by
  obtain ⟨h0, off, q⟩ := hb
  obtain ⟨b', off', q', -, hB⟩ := h.body.at0 h0
  rw [q] at q'; cases q'
  exact ⟨_, _, hB 0 h0⟩
/-- An iterator tells n entries. M: what it wants of the memory; T j e: what the entry j is; S0: all below belongs to others, and own what those own who are told. -/
def Tells (gf : Nat) (lb : Array Value) (S0 B0 : Nat) (M : World → Prop) (T : Nat → En → Prop) (n : Nat) : Prop :=
  ∀ (k lp : Nat) (J : Nat → (Nat → Prop) → World → Prop), (∀ j own W, J j own W → M W ∧ S0 ≤ W.heap.size ∧ ∀ b, own b → b < W.heap.size) → (∀ j own W W', J j own W → Sam S0 own W W' → J j own W') →
    (∀ j own W e, J j own W → j < n → EnOK W.heap.size W e → T j e → (∀ b, EB e b → b < B0 ∨ ¬ own b) → YieldAt Fence.wide (k - 1) Try.prog lp #[.agg e.arr] W fun r W' => r = .returned (.bool true) ∧ ∃ own', J (j + 1) own' W' ∧ (∀ b, own' b → own b ∨ W.heap.size ≤ b ∨ EB e b) ∧ (∀ b, S0 ≤ b → b < W.heap.size → ¬ own b → W'.heap[b]? = W.heap[b]?)) →
    ∀ W own, J 0 own W → CallsIn Fence.wide k Try.prog gf (#[.func (.yield lp) #[] #[]] ++ lb) W fun e W' => (∃ v, e = .returned v) ∧ ∃ own', J n own' W'
theorem li77w {n : Nat} {ops : Array Oper} {rest : List Oper} {o : Oper} {a : Act} {w : World} {Q : Exit → Act → World → Prop} (hgd : o.guard = none) (x : Operand) (ho : o.op = .load 77 x)
    (b off : Nat) (hx : a.eval x = .pointer (some ⟨b, off, none⟩)) (e : En) (he : e.sm.length = 32) (hc : w.rangeAt b off e.cells)
    (h : wpListIn Fence.wide n Try.prog ops Q rest (a.put o.dst (.agg e.arr)) w) : wpListIn Fence.wide n Try.prog ops Q (o :: rest) a w :=
  wpListIn_plain hgd fun _ hK => opInw (by rw [ho]; intro c hc; cases hc) (wp_load_mid 77 x ho b off hx e.cells _ hc Try.underlying77 rfl (by rw [En.len he]; exact size54) (hK _ _ h))
theorem si77nw {n : Nat} {ops : Array Oper} {rest : List Oper} {o : Oper} {a : Act} {Q : Exit → Act → World → Prop} (hgd : o.guard = none) (x y : Operand) (ho : o.op = .store 77 x y) (W : World) (g : Nat) (hgW : W.heap.size = g) {z : Array Value} (hz : z.size = 33)
    (e : En) (hx : a.eval x = .pointer (some ⟨g, 0, none⟩)) (hy : a.eval y = .agg e.arr) (he : e.sm.length = 32)
    (h : wpListIn Fence.wide n Try.prog ops Q rest (a.put o.dst undef) (W.alloc (.cells e.arr 77))) : wpListIn Fence.wide n Try.prog ops Q (o :: rest) a (W.alloc (.cells z 77)) := by
  subst hgW
  exact wpListIn_plain hgd fun _ hK => opInw (by rw [ho]; intro c hc; cases hc) (wp_store_row 77 x y ho W.heap.size e.arr hx hy 77 z (Arr.new W 77 z) (s54 he) (by rw [hz, En.size he]) e.oneA (hK _ _ (by rw [World.setRow_alloc_new]; exact h)))
/-- .. in a round. -/
theorem li77 {l n : Nat} {ops : Array Oper} {rest : List Oper} {o : Oper} {a : Act} {w : World} {Q : Exit → Act → World → Prop} (hgd : o.guard = none) (x : Operand) (ho : o.op = .load 77 x)
    (b off : Nat) (hx : a.eval x = .pointer (some ⟨b, off, none⟩)) (e : En) (he : e.sm.length = 32) (hc : w.rangeAt b off e.cells)
    (h : wpListIn (Fence.wide.inRound l) n Try.prog ops Q rest (a.put o.dst (.agg e.arr)) w) : wpListIn (Fence.wide.inRound l) n Try.prog ops Q (o :: rest) a w :=
  wpListIn_plain hgd fun _ hK => opIn (by rw [ho]; intro c hc; cases hc) (wp_load_mid 77 x ho b off hx e.cells _ hc Try.underlying77 rfl (by rw [En.len he]; exact size54) (hK _ _ h))
theorem si77n {l n : Nat} {ops : Array Oper} {rest : List Oper} {o : Oper} {a : Act} {Q : Exit → Act → World → Prop} (hgd : o.guard = none) (x y : Operand) (ho : o.op = .store 77 x y) (W : World) (g : Nat) (hgW : W.heap.size = g) {z : Array Value} (hz : z.size = 33)
    (e : En) (hx : a.eval x = .pointer (some ⟨g, 0, none⟩)) (hy : a.eval y = .agg e.arr) (he : e.sm.length = 32)
    (h : wpListIn (Fence.wide.inRound l) n Try.prog ops Q rest (a.put o.dst undef) (W.alloc (.cells e.arr 77))) : wpListIn (Fence.wide.inRound l) n Try.prog ops Q (o :: rest) a (W.alloc (.cells z 77)) := by
  subst hgW
  exact wpListIn_plain hgd fun _ hK => opIn (by rw [ho]; intro c hc; cases hc) (wp_store_row 77 x y ho W.heap.size e.arr hx hy 77 z (Arr.new W 77 z) (s54 he) (by rw [hz, En.size he]) e.oneA (hK _ _ (by rw [World.setRow_alloc_new]; exact h)))
set_option maxHeartbeats 400000 in
theorem values1_any (sp : Option Addr) (n cap : Nat) (w : World) :
    Calls Try.prog 83 #[.slice sp n cap] w fun e w' => e = .returned (.func (Fn.func 101) #[] #[.pointer (some ⟨w.heap.size, 0, none⟩)]) ∧ w' = w.alloc (.cells #[.slice sp n cap] 88) := by
  have hmf : ∀ (fn : Fn) (first cap : Array Value) (w : World), (Instr.makeFunc fn first cap).run Try.prog w = .ok (.func fn first cap) w := fun _ _ _ _ => rfl
  go_enter Try.func83, Try.ntmps83
  go_wp2
  go_ret
  exact ⟨rfl, rfl⟩
set_option maxHeartbeats 400000 in
theorem values2_any (sp : Option Addr) (n cap : Nat) (w : World) :
    Calls Try.prog 85 #[.slice sp n cap] w fun e w' => e = .returned (.func (Fn.func 104) #[] #[.pointer (some ⟨w.heap.size, 0, none⟩)]) ∧ w' = w.alloc (.cells #[.slice sp n cap] 63) := by
  have hmf : ∀ (fn : Fn) (first cap : Array Value) (w : World), (Instr.makeFunc fn first cap).run Try.prog w = .ok (.func fn first cap) w := fun _ _ _ _ => rfl
  go_enter Try.func85, Try.ntmps85
  go_wp2
  go_ret
  exact ⟨rfl, rfl⟩
set_option maxHeartbeats 400000 in
theorem pairs_any (sp : Option Addr) (n cap : Nat) (w : World) :
    Calls Try.prog 84 #[.slice sp n cap] w fun e w' => e = .returned (.func (Fn.func 102) #[] #[.pointer (some ⟨w.heap.size, 0, none⟩)]) ∧ w' = w.alloc (.cells #[.slice sp n cap] 88) := by
  have hmf : ∀ (fn : Fn) (first cap : Array Value) (w : World), (Instr.makeFunc fn first cap).run Try.prog w = .ok (.func fn first cap) w := fun _ _ _ _ => rfl
  go_enter Try.func84, Try.ntmps84
  go_wp2
  go_ret
  exact ⟨rfl, rfl⟩
set_option maxHeartbeats 400000 in
theorem inTurn_any (sp : Option Addr) (n cap : Nat) (w : World) :
    Calls Try.prog 82 #[.slice sp n cap] w fun e w' => e = .returned (.func (Fn.func 100) #[] #[.pointer (some ⟨w.heap.size, 0, none⟩)]) ∧ w' = w.alloc (.cells #[.slice sp n cap] 153) := by
  have hmf : ∀ (fn : Fn) (first cap : Array Value) (w : World), (Instr.makeFunc fn first cap).run Try.prog w = .ok (.func fn first cap) w := fun _ _ _ _ => rfl
  go_enter Try.func82, Try.ntmps82
  go_wp2
  go_ret
  exact ⟨rfl, rfl⟩
set_option maxHeartbeats 1000000 in
theorem values1_in (gc S0 B0 : Nat) (sp : Option Addr) (n cap : Nat) (es : List En) (hgc : gc < S0) (hB0 : B0 ≤ S0) (hn : n ≤ 1000) :
    Tells 101 #[.pointer (some ⟨gc, 0, none⟩)] S0 B0 (fun W => W.cell? ⟨gc, 0, none⟩ = some (.slice sp n cap) ∧ ES B0 W sp n cap es) (fun j e => es[j]? = some e) n := by
  intro k lp J hJM hJB hY W own0 h0
  refine callsIn_of_wp Try.func101 rfl trivial ?_ rfl
  simp only [Try.ntmps101, List.size_toArray, List.length_cons, List.length_nil, Nat.reduceAdd, Nat.reduceSub, Array.replicate_succ, Array.replicate_zero, List.push_toArray, List.append_toArray, List.nil_append, List.cons_append]
  obtain ⟨⟨c1, hE0⟩, hsz, -⟩ := hJM 0 own0 W h0
  have hl := hE0.len
  clear hE0
  gi_wp2
  gi_loopw [7] (fun d wr => ∃ (j : Nat) (own : Nat → Prop), d = .int .i64 (j : Int) ∧ j ≤ n ∧ J j own wr) (fun d _ => n - (intOf d).toNat)
  case atStart => exact ⟨0, own0, rfl, by omega, h0⟩
  case round =>
    obtain ⟨j, own, rfl, hj, hJj⟩ := hrel
    clear h0
    obtain ⟨⟨-, hE⟩, hszr, -⟩ := hJM j own wr hJj
    by_cases hlt : j < n
    · have hI : (j : Int) < n := by omega
      obtain ⟨g, off, rfl, hgN, hR⟩ := hE.at0 (by omega)
      obtain ⟨e, he⟩ : ∃ e, es[j]? = some e := ⟨es[j]'(by rw [← hl.out]; exact hlt), List.getElem?_eq_getElem _⟩
      have heo := hE.ok e (List.mem_of_getElem? he)
      have he32 := heo.s32
      have hRe := hR j e he
      have A1 := Arr.new wr 77 e.arr
      have hb1 := alloc_bel' wr (.cells e.arr 77)
      have hJ1 := hJB j own wr _ hJj (Sam.of hb1)
      obtain ⟨fn, tmps, assign, body, hy, hR⟩ := hY j own _ e hJ1 hlt ((heo.below (hb1.mono (by omega))).mono (by simp; omega)) he (fun b ⟨hb0, off, q⟩ => by
        obtain ⟨b', off', q', hb', -⟩ := heo.body.at0 hb0
        rw [q] at q'; cases q'
        exact .inl hb')
      clear he
      gi_wp2_with (first
        | (refine li77w (by rfl) _ (by rfl) g (off + j * 33) (by rfl) e he32 hRe ?_)
        | (refine si77nw (by rfl) _ _ (by rfl) wr wr.heap.size rfl (by rfl) e (by rfl) (by rfl) he32 ?_)
        | (refine li77w (by rfl) _ (by rfl) wr.heap.size 0 (by rfl) e he32 (rangeE A1) ?_))
      refine ⟨fun h => (by cases h), hR.mono ?_⟩
      rintro r W3 ⟨rfl, own3, hJ3, -⟩
      gi_wp2
      go_roundw
      case rel => exact ⟨j + 1, own3, by go_num, by omega, hJ3⟩
      case measure => simp [intOf]; omega
    · obtain rfl : j = n := by omega
      have hI : ¬ (j : Int) < j := by omega
      gi_wp2
      go_end0
      exact ⟨⟨_, rfl⟩, own, hJj⟩
set_option maxHeartbeats 1000000 in
theorem values2_in (gc S0 B0 : Nat) (sp : Option Addr) (n cap : Nat) (es : List En) (hgc : gc < S0) (hB0 : B0 ≤ S0) (hn : n ≤ 1000) :
    Tells 104 #[.pointer (some ⟨gc, 0, none⟩)] S0 B0 (fun W => W.cell? ⟨gc, 0, none⟩ = some (.slice sp n cap) ∧ ES B0 W sp n cap es) (fun j e => es[j]? = some e) n := by
  intro k lp J hJM hJB hY W own0 h0
  refine callsIn_of_wp Try.func104 rfl trivial ?_ rfl
  simp only [Try.ntmps104, List.size_toArray, List.length_cons, List.length_nil, Nat.reduceAdd, Nat.reduceSub, Array.replicate_succ, Array.replicate_zero, List.push_toArray, List.append_toArray, List.nil_append, List.cons_append]
  obtain ⟨⟨c1, hE0⟩, hsz, -⟩ := hJM 0 own0 W h0
  have hl := hE0.len
  clear hE0
  gi_wp2
  gi_loopw [7] (fun d wr => ∃ (j : Nat) (own : Nat → Prop), d = .int .i64 (j : Int) ∧ j ≤ n ∧ J j own wr) (fun d _ => n - (intOf d).toNat)
  case atStart => exact ⟨0, own0, rfl, by omega, h0⟩
  case round =>
    obtain ⟨j, own, rfl, hj, hJj⟩ := hrel
    clear h0
    obtain ⟨⟨-, hE⟩, hszr, -⟩ := hJM j own wr hJj
    by_cases hlt : j < n
    · have hI : (j : Int) < n := by omega
      obtain ⟨g, off, rfl, hgN, hR⟩ := hE.at0 (by omega)
      obtain ⟨e, he⟩ : ∃ e, es[j]? = some e := ⟨es[j]'(by rw [← hl.out]; exact hlt), List.getElem?_eq_getElem _⟩
      have heo := hE.ok e (List.mem_of_getElem? he)
      have he32 := heo.s32
      have hRe := hR j e he
      have A1 := Arr.new wr 77 e.arr
      have hb1 := alloc_bel' wr (.cells e.arr 77)
      have hJ1 := hJB j own wr _ hJj (Sam.of hb1)
      obtain ⟨fn, tmps, assign, body, hy, hR⟩ := hY j own _ e hJ1 hlt ((heo.below (hb1.mono (by omega))).mono (by simp; omega)) he (fun b ⟨hb0, off, q⟩ => by
        obtain ⟨b', off', q', hb', -⟩ := heo.body.at0 hb0
        rw [q] at q'; cases q'
        exact .inl hb')
      clear he
      gi_wp2_with (first
        | (refine li77w (by rfl) _ (by rfl) g (off + j * 33) (by rfl) e he32 hRe ?_)
        | (refine si77nw (by rfl) _ _ (by rfl) wr wr.heap.size rfl (by rfl) e (by rfl) (by rfl) he32 ?_)
        | (refine li77w (by rfl) _ (by rfl) wr.heap.size 0 (by rfl) e he32 (rangeE A1) ?_))
      refine ⟨fun h => (by cases h), hR.mono ?_⟩
      rintro r W3 ⟨rfl, own3, hJ3, -⟩
      gi_wp2
      go_roundw
      case rel => exact ⟨j + 1, own3, by go_num, by omega, hJ3⟩
      case measure => simp [intOf]; omega
    · obtain rfl : j = n := by omega
      have hI : ¬ (j : Int) < j := by omega
      gi_wp2
      go_end0
      exact ⟨⟨_, rfl⟩, own, hJj⟩
end Go.Proofs.Ytlebojbfcolkhaa
/- Layer state: what is told of a tree's pairs. -/
namespace Go.Proofs.Ytlebojbfcolkhaa
open Go.RowKit Go.Shelf
set_option maxRecDepth 100000
set_option linter.unusedVariables false
set_option linter.unusedSimpArgs false

attribute [local go_sem] Oper.semAt_some
/-- A pair's entry. -/
def PoPost (X Y : List Int) (w : World) (r : Ending) (w' : World) : Prop :=
  ∃ e : En, r = .returned (.agg e.arr) ∧ EnOK w'.heap.size w' e ∧ Hid (e.bs = 1 :: (X ++ Y) ∧ e.sm = shl (1 :: (X ++ Y))) ∧ (∀ b off, e.sp = some ⟨b, off, none⟩ → w.heap.size ≤ b) ∧ Below w.heap.size w w'
theorem one_32 {Y : List Int} (hY : Y.length = 32) : ∀ x ∈ [Y], x.length = 32 := by
  intro x hx; simp at hx; subst hx; exact hY
theorem one_bt {Y : List Int} (hY : Bts Y) : ∀ x ∈ [Y], Bts x := by
  intro x hx; simp at hx; subst hx; exact hY
theorem path1 (X Y : List Int) (w : World) (hX : X.length = 32) (hY : Y.length = 32) (bX : Bts X) (bY : Bts Y) (N g c : Nat) (hS : HS N w (some ⟨g, 0, none⟩) 1 c [Y]) :
    Calls Try.prog 81 #[.int .i64 0, .agg (h8 X), .slice (some ⟨g, 0, none⟩) 1 c] w fun r w' => ∃ (e : En) (gp op cp : Nat), r = .returned (.tuple #[.slice (some ⟨gp, op, none⟩) 1 cp, .int .i64 0]) ∧ w'.rangeAt gp op e.cells ∧ EnOK w'.heap.size w' e ∧ Hid (e.bs = 1 :: (X ++ Y) ∧ e.sm = shl (1 :: (X ++ Y))) ∧ (∀ b off, e.sp = some ⟨b, off, none⟩ → w.heap.size ≤ b) ∧ Below w.heap.size w w' := by
  refine (path_any 0 X N _ 1 c [Y] w hX bX hS (one_bt bY)).mono ?_
  rintro r w' ⟨sp, n, cap, es, rfl, hE, hbs, hsm, hfr, -, -, hb⟩
  have hF : FoOK 0 [Y].length := ⟨by simp, by omega, by simp⟩
  have hbs := hbs.out
  rw [if_pos hF] at hbs
  have hp : pth (0 : Int).toNat X [Y] = [1 :: (X ++ Y)] := by simp [pth, pb]
  rw [hp] at hbs
  have hl1 : es.length = 1 := by simpa using congrArg List.length hbs
  obtain ⟨e, rfl⟩ := List.length_eq_one_iff.1 hl1
  have hn : n = 1 := hE.len.out
  subst hn
  obtain ⟨gp, op, rfl, hg, hR⟩ := hE.at0 (by omega)
  have he : e.bs = 1 :: (X ++ Y) := by simpa using hbs
  have hfe : foE 0 [Y] = 0 := by unfold foE; rw [if_pos hF]
  refine ⟨e, gp, op, cap, by rw [hfe], ?_, hE.ok e (by simp), Hid.mk' ⟨he, ?_⟩, hfr e (by simp), hb⟩
  · have := hR 0 e rfl
    simpa using this
  · rw [hsm.out e (by simp), he]
theorem z77 : En.arr ⟨none, 0, 0, [], Z32⟩ = #[.slice none 0 0, .int .u8 0, .int .u8 0, .int .u8 0, .int .u8 0, .int .u8 0, .int .u8 0, .int .u8 0, .int .u8 0, .int .u8 0, .int .u8 0, .int .u8 0, .int .u8 0, .int .u8 0, .int .u8 0, .int .u8 0, .int .u8 0, .int .u8 0, .int .u8 0, .int .u8 0, .int .u8 0, .int .u8 0, .int .u8 0, .int .u8 0, .int .u8 0, .int .u8 0, .int .u8 0, .int .u8 0, .int .u8 0, .int .u8 0, .int .u8 0, .int .u8 0, .int .u8 0] := rfl
set_option maxHeartbeats 1000000 in
theorem pairOf6_any (X Y : List Int) (w : World) (hX : X.length = 32) (hY : Y.length = 32) (bX : Bts X) (bY : Bts Y) : Calls Try.prog 103 #[.agg (h8 X), .agg (h8 Y)] w (PoPost X Y w) := by
  have X0 := ((Arr.new w 24 (h8 X)).alloc (.cells (h8 Y) 24)).alloc (.cells (En.arr ⟨none, 0, 0, [], Z32⟩) 77)
  have Y0 := (show Arr ((w.alloc (.cells (h8 X) 24)).alloc (.cells (h8 Y) 24)) (w.heap.size + 1) 24 (h8 Y) from (by simpa using Arr.new (w.alloc (.cells (h8 X) 24)) 24 (h8 Y))).alloc (.cells (En.arr ⟨none, 0, 0, [], Z32⟩) 77)
  have Z0 := Arr.new3 w (.cells (h8 X) 24) (.cells (h8 Y) 24) 77 (En.arr ⟨none, 0, 0, [], Z32⟩)
  have B0 := ((alloc_bel' w (.cells (h8 X) 24)).alloc (by simp) (.cells (h8 Y) 24)).alloc (by simp; omega) (.cells (En.arr ⟨none, 0, 0, [], Z32⟩) 77)
  have hs0 : (((w.alloc (.cells (h8 X) 24)).alloc (.cells (h8 Y) 24)).alloc (.cells (En.arr ⟨none, 0, 0, [], Z32⟩) 77)).heap.size = w.heap.size + 3 := by simp
  have hzz : (En.arr ⟨none, 0, 0, [], Z32⟩).size = 33 := En.size Z32_len
  go_enter Try.func103, Try.ntmps103
  go_upto_region 1 with fail
  rw [← z77]
  generalize ((w.alloc (.cells (h8 X) 24)).alloc (.cells (h8 Y) 24)).alloc (.cells (En.arr ⟨none, 0, 0, [], Z32⟩) 77) = W at *
  replace hs0 := Hid.mk' hs0
  have hH := hs_lit (Arr.new W 24 (flat32 [Y]).toArray) (one_32 hY) (m := 1) rfl (by omega)
  have e1 : (flat32 [Y]).toArray = h8 Y := by simp [flat32, h8]
  rw [e1] at hH
  have hP := Hid.mk' (path1 X Y _ hX hY bX bY _ _ _ hH)
  go_upto_region 2 with (first
    | (refine ld24 (by rfl) _ (by rfl) w.heap.size 0 (by rfl) X hX X0.range ?_)
    | (refine ld24 (by rfl) _ (by rfl) (w.heap.size + 1) 0 (by rfl) Y hY Y0.range ?_)
    | (refine b1L (by rfl) _ (by rfl) Y (by rfl) hY ?_)
    | (go_at_call 81; go_must (refine hP.out.mono ?_; rintro r w1 ⟨e, gp, op, cp, rfl, hR, hE, he, hfr, hb⟩)))
  have he32 := hE.s32
  have hb' := (alloc_bel' W (.cells (h8 Y) 24)).trans (hb.mono (by simp))
  have Z1 := Z0.below hb' Z0.lt
  have B1 := B0.trans (hb'.mono B0.size)
  have hzs := hs0.out
  have hbs := hb'.size
  go_wp2_with (first
    | (refine ld54 (by rfl) _ (by rfl) gp op (by rfl) e he32 hR ?_)
    | (refine wpList_store_arr (by rfl) 77 (.tmp 4) (.tmp 16) (by rfl) (w.heap.size + 2) e.arr (by rfl) (by rfl) 77 _ Z1 (s54 he32) (by rw [En.size he32]; exact hzz) e.oneA ?_))
  refine bodyPost_ret (v := .agg e.arr) (res54 Try.results103 rfl he32 (Z1.setRow _)) rfl ⟨e, rfl, ⟨?_, he32⟩, he, fun b off q => by have := hfr b off q; simp at this; omega, below_setRow B1 (by omega) _⟩
  exact hE.body.same (by simp) (fun b off _ q _ => setRow_other w1 (w.heap.size + 2) b _ (by have := hfr b off q; simp at this; omega))

/-- A row of sums that is written over. -/
structure LL (W : World) (g : Nat) (F : List (List Int)) : Prop where
  rg : ∀ k X, F[k]? = some X → W.rangeAt g (k * 32) (by8 X)
  th : W.there g 0 (F.length * 32)
  l32 : ∀ X ∈ F, X.length = 32
theorem LL.block {W W' : World} {g : Nat} {F : List (List Int)} (h : LL W g F) (hb : W'.heap[g]? = W.heap[g]?) : LL W' g F :=
  ⟨fun k X hX j v hv => (World.cell?_of_block (w := W) (a := ⟨g, k * 32 + j, none⟩) hb).trans (h.rg k X hX j v hv), fun j hj => ⟨by rw [World.cell?_of_block (w := W) (a := ⟨g, 0 + j, none⟩) hb]; exact (h.th j hj).1, by have h2 := (h.th j hj).2; simp only [World.frozen?] at h2 ⊢; rw [hb]; exact h2⟩, h.l32⟩
theorem LL.arr {W : World} {g : Nat} {F : List (List Int)} (hA : Arr W g 24 (flat32 F).toArray) (h : ∀ X ∈ F, X.length = 32) : LL W g F :=
  ⟨fun k X hX j v hv => by rw [hA.cell]; simpa using flat32_at h hX hv, fun j hj => ⟨by rw [hA.cell, Nat.zero_add, Array.getElem?_eq_getElem (by simp [flat32_len h]; exact hj)]; rfl, hA.frozen _⟩, h⟩
theorem LL.lt {W : World} {g : Nat} {F : List (List Int)} (h : LL W g F) (h0 : 0 < F.length) : g < W.heap.size := by
  have := (h.th 0 (by omega)).1
  obtain ⟨v, hv⟩ := Option.isSome_iff_exists.1 this
  exact block_lt_of_cell hv
theorem LL.at {W : World} {g : Nat} {F : List (List Int)} (h : LL W g F) {i : Nat} (hi : i < F.length) : W.there g (i * 32) 32 := fun j hj => by
  have := h.th (i * 32 + j) (by have : i * 32 + 32 ≤ F.length * 32 := by omega
                                omega)
  rwa [Nat.zero_add] at this
theorem LL.set {W : World} {g : Nat} {F : List (List Int)} (h : LL W g F) {i : Nat} (hi : i < F.length) {X : List Int} (hX : X.length = 32) : LL (W.setCells g (i * 32) (by8 X)) g (F.set i X) := by
  refine ⟨fun k Y hY => ?_, by rw [List.length_set]; exact World.there_setCells h.th g (i * 32) (by8 X), fun Y hY => ?_⟩
  · by_cases hk : k = i
    · subst hk
      rw [List.getElem?_set_self hi] at hY
      cases hY
      exact World.rangeAt_setCells_same W g (k * 32) (by8 X) (by rw [by8_len, hX]; exact h.at hi)
    · rw [List.getElem?_set_ne (Ne.symm hk)] at hY
      refine World.rangeAt_setCells_apart (h.rg k Y hY) g (i * 32) (by8 X) (.inr ?_)
      rw [by8_len, by8_len, hX, h.l32 Y (List.mem_of_getElem? hY)]
      omega
  · rcases List.mem_or_eq_of_mem_set hY with h1 | h1
    · exact h.l32 Y h1
    · rw [h1]; exact hX
theorem upd_set {A F : List (List Int)} {i : Nat} {x : List Int} (hA : A[i]? = some x) (hF : i < F.length) : (A.take i ++ F.drop i).set i x = A.take (i + 1) ++ F.drop (i + 1) := by
  have hi := (List.getElem?_eq_some_iff.1 hA).1
  rw [List.set_append_right _ _ (by simp; omega), List.length_take, Nat.min_eq_left (by omega), Nat.sub_self, List.drop_eq_getElem_cons hF, List.set_cons_zero, List.take_add_one, hA]
  simp
theorem upd_get {A F : List (List Int)} {i k : Nat} (h : i ≤ k) (hA : i ≤ A.length) : (A.take i ++ F.drop i)[k]? = F[k]? := by
  rw [List.getElem?_append_right (by simp; omega), List.length_take, Nat.min_eq_left hA, List.getElem?_drop]
  congr 1; omega
theorem ES.s32'' {N : Nat} {w : World} {sp : Option Addr} {n cap : Nat} {es : List En} {ls : List (List Int)} (h : ES N w sp n cap es) (hl : Hid (es.map En.sm = ls)) : ∀ x ∈ ls, x.length = 32 := by
  intro x hx
  rw [← hl.out] at hx
  obtain ⟨e, he, rfl⟩ := List.mem_map.1 hx
  exact (h.ok e he).s32
theorem q0n {Q : Exit → Act → World → Prop} {a : Act} {w : World} (h : Q .normal a w) : Q0 Q .normal a w := h
/-- 32 noughts. -/
def zl : List (List Int) := List.replicate 32 Z32
theorem mk24w {k : Nat} {ops : Array Oper} {rest : List Oper} {o : Oper} {a : Act} {w : World} {Q : Exit → Act → World → Prop} (hgd : o.guard = none) (x : Operand) (ho : o.op = .makeSlice 42 x x) (hx : a.eval x = .int .i64 32)
    (h : wpListIn Fence.wide k Try.prog ops Q rest (a.put o.dst (.slice (some ⟨w.heap.size, 0, none⟩) 32 32)) (w.alloc (.cells (flat32 zl).toArray 24))) : wpListIn Fence.wide k Try.prog ops Q (o :: rest) a w := by
  obtain ⟨i0, hi0, hz0, hz1, hz2⟩ := info_parts info24
  have hr := run_make (P := Try.prog) w 42 24 i0 (.agg (h8 Z32)) Try.underlying42 hi0 hz0 .i64 .i64 (32 : Nat) (32 : Nat) (by omega) (Int.le_refl _) (by rw [hz2]; omega) (by omega)
  rw [hz1, Int.toNat_natCast, made24] at hr
  refine wpListIn_plain hgd fun _ hK => opInw (by rw [ho]; intro c hc; cases hc) ?_
  unfold Oper.wp execOp
  have hr' : (Instr.makeSlice 42 (.int .i64 32) (.int .i64 32)).run Try.prog w = _ := hr
  simp only [ho, hx, hr', Sem.run_bind, Sem.run_pure, Result.andThen_ok]
  exact hK _ _ h
theorem cp24w {m : Nat} {ops : Array Oper} {rest : List Oper} {o : Oper} {a : Act} {w : World} {Q : Exit → Act → World → Prop} (hgd : o.guard = none) (x y : Operand) (ho : o.op = .call { callee := .builtin .copy, args := #[x, y], argTypes := #[42, 42] })
    (g k N : Nat) (sp : Option Addr) (n cap : Nat) (ls : List (List Int)) (hx : a.eval x = .slice (some ⟨g, 0, none⟩) k k) (hy : a.eval y = .slice sp n cap) (hS : HS N w sp n cap ls) (hA : Arr w g 24 (flat32 (List.replicate k Z32)).toArray) (hn : n ≤ k)
    (h : wpListIn Fence.wide m Try.prog ops Q rest (a.put o.dst (goInt n)) (w.setRow g (flat32 (ls ++ List.replicate (k - n) Z32)).toArray)) : wpListIn Fence.wide m Try.prog ops Q (o :: rest) a w := by
  refine wpListIn_plain hgd fun _ hK => opInw (by rw [ho]; intro c hc; cases hc) ?_
  have hr := run_copy24 w g k N sp n cap ls o.type hS hA hn
  unfold Oper.wp
  simp [execOp, ho, resolve, invoke, builtin, hx, hy, hr, Result.andThen]
  exact hK _ _ h
theorem si24mw {k : Nat} {ops : Array Oper} {rest : List Oper} {o : Oper} {a : Act} {w : World} {Q : Exit → Act → World → Prop} (hgd : o.guard = none) (x y : Operand) (ho : o.op = .store 24 x y)
    (g i : Nat) (F : List (List Int)) (X : List Int) (off : Nat) (hoff : off = i * 32) (hx : a.eval x = .pointer (some ⟨g, off, none⟩)) (hy : a.eval y = .agg (h8 X)) (hX : X.length = 32) (hL : LL w g F) (hi : i < F.length)
    (h : wpListIn Fence.wide k Try.prog ops Q rest (a.put o.dst undef) (w.setCells g (i * 32) (by8 X))) : wpListIn Fence.wide k Try.prog ops Q (o :: rest) a w := by
  subst hoff
  exact wpListIn_plain hgd fun _ hK => opInw (by rw [ho]; intro c hc; cases hc) (wp_store_mid 24 x y ho g (i * 32) (h8 X) hx hy (by rw [h8_size, hX]; exact hL.at hi) (s24h8 hX) (h8_one X) (hK _ _ h))
end Go.Proofs.Ytlebojbfcolkhaa
